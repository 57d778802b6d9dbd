import Derived.Test.YtfangdhbadmolaaGreatDoorIq
import Derived.Test.YtfangdhbadmolaaGreatDoorEq
import Derived.Test.YtfangdhbadmolaaGreatDoorMk
import Derived.Deep.DeepCutAuto
namespace Go.Proofs.YtfangdhbadmolaaGreatDoor
open Go.RowKit
set_option linter.unusedVariables false

theorem cell_grown {w w' : World} {r : Option Nat} (hg : w.grownBy w' r) {A : Nat} {o : Nat} {x : Value} (hA : A < w.heap.size) (hr : ¬ some A = r) (h : w.cell? ⟨A, o, none⟩ = some x) : w'.cell? ⟨A, o, none⟩ = some x :=
  (World.cell?_of_block (w := w) (a := ⟨A, o, none⟩) (hg.block A hA (fun e => hr e))).trans h

/-- a variable that holds a disk -/
def Box (w : World) (A : Nat) (x : Value) : Prop := A < w.heap.size ∧ w.cell? ⟨A, 0, none⟩ = some x

theorem Box.below {w w' : World} {A B : Nat} {x : Value} (h : Box w A x) (hb : Below B w w') (hA : A < B) : Box w' A x :=
  ⟨Nat.lt_of_lt_of_le h.1 hb.size, (hb.cell (p := ⟨A, 0, none⟩) hA).trans h.2⟩
theorem Box.keep {w w' : World} {A : Nat} {x : Value} (h : Box w A x) (hb : Below w.heap.size w w') : Box w' A x := h.below hb h.1
theorem Box.grown {w w' : World} {A : Nat} {x : Value} {r : Option Nat} (h : Box w A x) (hg : w.grownBy w' r) (hr : ∀ k, r = some k → ¬ k = A) : Box w' A x :=
  ⟨Nat.lt_of_lt_of_le h.1 hg.size, cell_grown hg h.1 (fun e => hr A e.symm rfl) h.2⟩
theorem Box.new (w : World) (x : Value) (t : TypeId) : Box (w.alloc (.cells #[x] t)) w.heap.size x := ⟨by simp, by simp [go_sem]⟩

theorem grown_below {w w' : World} {r : Option Nat} {B : Nat} (hg : w.grownBy w' r) (hB : B ≤ w.heap.size) (hr : ∀ k, r = some k → B ≤ k) : Below B w w' :=
  (Below.refl B w).grown hg hB hr

/-- a disk of the law's own: its variable at A, its row from B on, ahead of A -/
structure Arr (B A : Nat) (u : Value) (S : List Pl.Fl) (w' : World) : Prop where
  box : Box w' A u
  res : OwF B w' u S
  r : ∀ k, rowOf u S.length = some k → k < A

theorem Arr.keep {B A : Nat} {u : Value} {S : List Pl.Fl} {w w' : World} (h : Arr B A u S w) (hb : Below w.heap.size w w') : Arr B A u S w' := ⟨h.box.keep hb, h.res.keep hb, h.r⟩
theorem Arr.new {B : Nat} {u : Value} {S : List Pl.Fl} {w : World} (h : OwF B w u S) (t : TypeId) : Arr B w.heap.size u S (w.alloc (.cells #[u] t)) :=
  ⟨Box.new w u t, h.keep ((Below.refl _ _).alloc (Nat.le_refl _) _), fun k hk => (rowOf_ge h k hk).2⟩

theorem OwF.grown {B : Nat} {w w' : World} {u : Value} {fs : List Pl.Fl} {r : Option Nat} (h : OwF B w u fs) (hg : w.grownBy w' r) (hr : ∀ k, r = some k → k < B) : OwF B w' u fs :=
  h.blk hg.size (fun g hB hlt _ _ => hg.block g hlt (fun e => by have := hr g e.symm; omega))

/-- another disk is marked, which lies below -/
theorem Arr.grown {B A : Nat} {u : Value} {S : List Pl.Fl} {w w' : World} {r : Option Nat} (h : Arr B A u S w) (hg : w.grownBy w' r) (hA : B ≤ A) (hr : ∀ k, r = some k → k < B) : Arr B A u S w' :=
  ⟨h.box.grown hg (fun k e => by have := hr k e; omega), h.res.grown hg hr, h.r⟩

/-- toDisk's answer, as a disk of new memory -/
theorem toDisk_res (v : Value) (fs : List Pl.Fl) (w : World) (hl : fs.length ≤ 1048576) (h : RdF w.heap.size w v fs) :
    Calls Tryz.prog 7 #[.agg #[v]] w fun e w' => ∃ g : Nat, e = .returned (.agg #[sl g fs.length]) ∧ OwF w.heap.size w' (sl g fs.length) fs ∧ Below w.heap.size w w' := by
  refine (toDisk_any v fs w hl h).mono ?_
  rintro e w' ⟨g, rfl, _, ho, hb⟩
  exact ⟨g, rfl, owF_of_own ho, hb⟩

theorem eqDisk_same (v1 v2 : Value) (xs : List Pl.Fl) (w : World) (hl1 : xs.length ≤ 1048576) (h1 : RdF w.heap.size w v1 xs) (h2 : RdF w.heap.size w v2 xs) :
    Calls Tryz.prog 10 #[.agg #[v1], .agg #[v2]] w fun e w' => e = .returned (.bool true) ∧ Below w.heap.size w w' := by
  have := eqDisk_any v1 v2 xs xs w hl1 hl1 h1 h2
  simpa using this

/-- laws.szAct -/
theorem szAct_any (kd : Int) (a b c : ByteArray) (l : Int) (w : World) (ha : a.size ≤ 9223372036854775807) (hb : b.size ≤ 9223372036854775807) (hc : c.size ≤ 9223372036854775807) (h0 : 0 ≤ l) (h1 : l ≤ 1048576) :
    Calls Tryz.prog 5 #[.agg #[.int .i64 kd, .string a, .string b, .string c], .int .i64 l] w fun e w' => e = .returned (.int .i64 (if l < (a.size : Int) + b.size + c.size then -1 else l - a.size - b.size - c.size)) ∧ Below w.heap.size w w' := by
  have HB : Hid (∀ o, Below w.heap.size w (w.alloc o)) := fun o => (Below.refl _ _).alloc (Nat.le_refl _) _
  generalize hm : a.size = m at *
  generalize hn : b.size = n at *
  generalize hp : c.size = p at *
  by_cases g0 : l - (m : Int) < 0
  · go_enter Tryz.func5, Tryz.ntmps5
    go_wp2
    go_ret
    exact ⟨rfl, HB.out _⟩
  · by_cases g1 : l - (m : Int) - (n : Int) < 0
    · go_enter Tryz.func5, Tryz.ntmps5
      go_wp2
      go_ret
      exact ⟨rfl, HB.out _⟩
    · by_cases g2 : l - (m : Int) - (n : Int) - (p : Int) < 0
      · go_enter Tryz.func5, Tryz.ntmps5
        go_wp2
        go_ret
        exact ⟨rfl, HB.out _⟩
      · go_enter Tryz.func5, Tryz.ntmps5
        go_wp2
        go_ret
        exact ⟨rfl, HB.out _⟩

/-- laws.toAct -/
theorem toAct_any (kd : Int) (a b c : ByteArray) (w : World) :
    Calls Tryz.prog 8 #[.agg #[.int .i64 kd, .string a, .string b, .string c]] w fun e w' => e = .returned (.agg #[.int .i64 kd, .string a, .string b, .string c]) ∧ Below w.heap.size w w' := by
  have HB := hideP (below3 w)
  go_enter Tryz.func8, Tryz.ntmps8
  go_wp2
  refine bodyPost_ret (v := .agg #[.int .i64 kd, .string a, .string b, .string c]) (by simp [results, Tryz.results8, go_sem]) rfl ⟨rfl, ?_⟩
  repeat (refine Below.setCell ?_ (by simp) _)
  exact HB.out _ _ _

/-- a variable that holds an act -/
def BoxA (w : World) (A : Nat) (kd : Int) (nm tn da : ByteArray) : Prop := A < w.heap.size ∧ w.cell? ⟨A, 0, none⟩ = some (.int .i64 kd) ∧ w.cell? ⟨A, 1, none⟩ = some (.string nm) ∧ w.cell? ⟨A, 2, none⟩ = some (.string tn) ∧ w.cell? ⟨A, 3, none⟩ = some (.string da)
theorem BoxA.below {w w' : World} {A B : Nat} {kd : Int} {nm tn da : ByteArray} (h : BoxA w A kd nm tn da) (hb : Below B w w') (hA : A < B) : BoxA w' A kd nm tn da :=
  ⟨Nat.lt_of_lt_of_le h.1 hb.size, (hb.cell (p := ⟨A, 0, none⟩) hA).trans h.2.1, (hb.cell (p := ⟨A, 1, none⟩) hA).trans h.2.2.1, (hb.cell (p := ⟨A, 2, none⟩) hA).trans h.2.2.2.1, (hb.cell (p := ⟨A, 3, none⟩) hA).trans h.2.2.2.2⟩

/-- a new variable of a disk that is not yet filled -/
def Slot (wv : World) (A : Nat) (W : World) : Prop := wv.heap.size ≤ A ∧ A < W.heap.size ∧ W.cell? ⟨A, 0, none⟩ = some (.slice none 0 0) ∧ W.frozen? ⟨A, 0, none⟩ = false
theorem Slot.keep {wv W W' : World} {A : Nat} (h : Slot wv A W) (hb : Below W.heap.size W W') : Slot wv A W' :=
  ⟨h.1, Nat.lt_of_lt_of_le h.2.1 hb.size, (hb.cell (p := ⟨A, 0, none⟩) h.2.1).trans h.2.2.1, (hb.frozen (p := ⟨A, 0, none⟩) h.2.1).trans h.2.2.2⟩
theorem Slot.new {wv W : World} (h : wv.heap.size ≤ W.heap.size) (t : TypeId) : Slot wv W.heap.size (W.alloc (.cells #[.slice none 0 0] t)) :=
  ⟨h, by simp, by simp [go_sem], by simp [go_sem]⟩
theorem Slot.drew {wv W : World} {A : Nat} (h : Slot wv A W) : Slot wv A W.drew := h

/-- what a drawn assignment leaves: the answer, owned, and its variable -/
structure Got (wv : World) (A : Nat) (u : Value) (S : List Pl.Fl) (wx : World) : Prop where
  bel : Below wv.heap.size wv wx
  lo : wv.heap.size ≤ A
  box : Box wx A u
  res : OwF wv.heap.size wx u S
  r : ∀ k, rowOf u S.length = some k → ¬ k = A
theorem got_of {wv W : World} {A : Nat} {u : Value} {S : List Pl.Fl} (hb : Below wv.heap.size wv W) (hs : Slot wv A W) (h : OwF wv.heap.size W u S) (hr : ∀ k, rowOf u S.length = some k → ¬ k = A) : Got wv A u S (W.setCell ⟨A, 0, none⟩ u) :=
  ⟨hb.setCell (by simpa using hs.1) _, hs.1, ⟨by simpa using hs.2.1, World.cell?_setCell_same _ _ _ hs.2.2.1⟩,
   h.blk (by simp) (fun g _ _ ho hl => Below.heap_setCell _ _ _ _ (hr g (by unfold rowOf; rw [if_neg (by omega)]; exact ho))), hr⟩
theorem Got.keep {wv W W' : World} {A : Nat} {u : Value} {S : List Pl.Fl} (h : Got wv A u S W) (hb : Below W.heap.size W W') : Got wv A u S W' :=
  ⟨h.bel.trans (hb.mono h.bel.size), h.lo, h.box.keep hb, h.res.keep hb, h.r⟩

/-- an answer's disk while others are marked: its variable at A, its row from B on -/
structure Arw (B A : Nat) (u : Value) (S : List Pl.Fl) (w' : World) : Prop where
  box : Box w' A u
  res : OwF B w' u S
  r : ∀ k, rowOf u S.length = some k → ¬ k = A
  hB : B ≤ A
theorem Arw.keep {B A : Nat} {u : Value} {S : List Pl.Fl} {w w' : World} (h : Arw B A u S w) (hb : Below w.heap.size w w') : Arw B A u S w' := ⟨h.box.keep hb, h.res.keep hb, h.r, h.hB⟩
theorem Arw.grown {B A : Nat} {u : Value} {S : List Pl.Fl} {w w' : World} {r : Option Nat} (h : Arw B A u S w) (hg : w.grownBy w' r) (hr : ∀ k, r = some k → k < B) : Arw B A u S w' :=
  ⟨h.box.grown hg (fun k e => by have := hr k e; have := h.hB; omega), h.res.grown hg hr, h.r, h.hB⟩

/-- what lies there behind the specification's answer: the arguments in their variables, the answer in its own (at A), all of it below M -/
structure Env (w : World) (A M : Nat) (v : Value) (kd : Int) (nm tn da : ByteArray) (u : Value) (S : List Pl.Fl) (w' : World) : Prop where
  bel : Below w.heap.size w w'
  lt : w.heap.size + 1 + 1 ≤ A
  hA : A < M
  hM : M ≤ w'.heap.size
  box : Box w' w.heap.size v
  act : BoxA w' (w.heap.size + 1) kd nm tn da
  boxW : Box w' A u
  rd : RdF M w' u S
theorem Env.below {w w' w'' : World} {A M B : Nat} {v u : Value} {kd : Int} {nm tn da : ByteArray} {S : List Pl.Fl} (h : Env w A M v kd nm tn da u S w') (hb : Below B w' w'') (hB : M ≤ B) : Env w A M v kd nm tn da u S w'' := by
  have h1 := h.lt
  have h2 := h.hA
  exact ⟨h.bel.trans (hb.mono (by omega)), h.lt, h.hA, Nat.le_trans h.hM hb.size, h.box.below hb (by omega), h.act.below hb (by omega), h.boxW.below hb (by omega), h.rd.keep (hb.mono hB)⟩
theorem Env.keep {w w' w'' : World} {A M : Nat} {v u : Value} {kd : Int} {nm tn da : ByteArray} {S : List Pl.Fl} (h : Env w A M v kd nm tn da u S w') (hb : Below w'.heap.size w' w'') : Env w A M v kd nm tn da u S w'' := h.below hb h.hM

theorem Pl.doR_len (fs : List Pl.Fl) (a : Pl.Ac) (hl : fs.length ≤ 1048576) : (Pl.doR fs a).length ≤ 1048576 := by
  unfold Pl.doR
  split
  · rename_i h
    unfold Pl.doM
    split
    · rename_i h2
      have := (Pl.eff_vd (Pl.vd_of_disk h) h2).len
      omega
    · exact hl
  · exact hl

set_option maxRecDepth 100000 in
set_option maxHeartbeats 16000000 in
/-- laws.FnExactDo -/
theorem lawDo (v : Value) (fs : List Pl.Fl) (kd : Int) (nm tn da : ByteArray) (w : World) (hm : fs.length ≤ 9223372036854775807) (hz : ∀ f ∈ fs, f.1.size ≤ 9223372036854775807 ∧ f.2.size ≤ 9223372036854775807)
    (hn : nm.size ≤ 9223372036854775807) (ht : tn.size ≤ 9223372036854775807) (hd : da.size ≤ 9223372036854775807)
    (hg : w.cell? ⟨0, 0, none⟩ = some (.iface 113 (.agg #[.pointer (some ⟨1, 46, none⟩)]))) (h : RdF w.heap.size w v fs) :
    Calls Tryz.prog 3 #[.agg #[v], .agg #[.int .i64 kd, .string nm, .string tn, .string da]] w fun e w' => e = .returned (.bool true) ∧ Below w.heap.size w w' := by
  have hlt0 : 0 < w.heap.size := by
    rcases Nat.eq_zero_or_pos w.heap.size with h0 | h
    · simp [World.cell?, h0] at hg
    · exact h
  have H := hideP h
  have HZ := hideP hz
  have HG := hideP hg
  clear h hz hg
  have B0 : Hid (∀ o1 o2 : Obj, Below w.heap.size w ((w.alloc o1).alloc o2)) := fun o1 o2 => ((Below.refl _ _).alloc (Nat.le_refl _) _).alloc (by simp) _
  have KS := hideP (fun l w' => szAct_any kd nm tn da l w' hn ht hd)
  clear hn ht hd
  go_enter Tryz.func3, Tryz.ntmps3
  go_wp2_with fail
  refine (szDisk_any v fs 1048576 _ hm HZ.out (by omega) (by omega) ((H.out.keep (B0.out _ _)).up (by simp; omega))).mono ?_
  rintro e w0 ⟨r, rfl, hr1, hr, hb1⟩
  have B1 := hideP ((B0.out _ _).trans (hb1.mono (by simp; omega)))
  have X1 : Hid (Box w0 w.heap.size v) := ((Box.new w v 24).keep ((Below.refl _ _).alloc (Nat.le_refl _) _)).keep hb1
  have Y1 : Hid (BoxA w0 (w.heap.size + 1) kd nm tn da) := BoxA.below (B := w.heap.size + 1 + 1) ⟨by simp, by simp [go_sem], by simp [go_sem], by simp [go_sem], by simp [go_sem]⟩ (hb1.mono (by simp)) (by omega)
  have sz1 : w.heap.size + 1 + 1 ≤ w0.heap.size := by have := hb1.size; simpa using this
  clear hb1
  by_cases hneg : r < 0
  · go_wp2_with fail
    go_ret
    exact ⟨rfl, B1.out⟩
  · have L0 : fs.length ≤ 1048576 := by omega
    have SF : Hid (SmF fs) := fun f hf => by have := Pl.weigh_mem hf; omega
    clear hr HZ hm
    obtain ⟨_, y0, y1, y2, y3⟩ := Y1.out
    have KZ := hideP (fun w' => KS.out r w' (by omega) hr1)
    go_wp2_with fail
    clear y0 y1 y2 y3
    refine (KZ.out _).mono ?_
    rintro e w1 ⟨rfl, hb1'⟩
    have B1 := hideP (B1.out.trans (hb1'.mono (by omega)))
    have X1 := hideP (X1.out.keep hb1')
    have Y1 := hideP (Y1.out.below hb1' (by omega))
    have sz1 : w.heap.size + 1 + 1 ≤ w1.heap.size := by have := hb1'.size; omega
    clear hb1' KZ KS
    by_cases hbig : r < (nm.size : Int) + tn.size + da.size
    · rw [if_pos hbig]
      clear hbig
      go_wp2_with fail
      go_ret
      exact ⟨rfl, B1.out⟩
    · rw [if_neg hbig]
      have hn : nm.size ≤ 1048576 := by omega
      have ht : tn.size ≤ 1048576 := by omega
      have hd : da.size ≤ 1048576 := by omega
      have HS := hideP (And.intro hn (And.intro ht hd))
      have hnn : ¬ (r - nm.size - tn.size - da.size < 0) := by omega
      generalize r - nm.size - tn.size - da.size = r2 at hnn ⊢
      clear hbig hn ht hd hr1 hneg
      have HP : Hid (∀ x w', RdF w'.heap.size w' x fs → Calls Tryz.prog 6 #[.agg #[x], .agg #[.int .i64 kd, .string nm, .string tn, .string da]] w' (DPost w' fs ⟨kd, nm, tn, da⟩)) := fun x w' h => specDo_any x fs kd nm tn da w' L0 SF.out HS.out.1 HS.out.2.1 HS.out.2.2 h
      have HI : Hid (∀ x w', Below w.heap.size w w' → RdF w'.heap.size w' x fs → Calls Tryz.prog 9 #[.agg #[x], .agg #[.int .i64 kd, .string nm, .string tn, .string da]] w' (DPost w' fs ⟨kd, nm, tn, da⟩)) := fun x w' hb h => implDo_any x fs kd nm tn da w' L0 SF.out HS.out.1 HS.out.2.1 HS.out.2.2 ((hb.cell (p := ⟨0, 0, none⟩) hlt0).trans HG.out) h
      have lS : (Pl.doR fs ⟨kd, nm, tn, da⟩).length ≤ 1048576 := Pl.doR_len fs _ L0
      obtain ⟨S, hS⟩ : ∃ S, Pl.doR fs ⟨kd, nm, tn, da⟩ = S := ⟨_, rfl⟩
      obtain ⟨q, hq⟩ : ∃ q, Pl.doC fs ⟨kd, nm, tn, da⟩ = q := ⟨_, rfl⟩
      rw [hS] at lS
      have PO : Hid (∀ W e w', DPost W fs ⟨kd, nm, tn, da⟩ e w' → Below W.heap.size W w' ∧ ∃ x9 y9, e = .returned (.tuple #[.agg #[.slice x9 S.length y9], .int .i64 q]) ∧ OwF W.heap.size w' (.slice x9 S.length y9) S) := by
        rintro W e w' ⟨hb, u, rfl, ho⟩
        rw [hS] at ho
        rw [hq]
        obtain ⟨x9, y9, e9⟩ := ho.form
        subst e9
        exact ⟨hb, x9, y9, rfl, ho⟩
      clear hS hq HS SF HG
      have K2 := hideP (fun w' => toAct_any kd nm tn da w')
      have K1 : Hid (∀ W, Below w1.heap.size w1 W → Calls Tryz.prog 7 #[.agg #[v]] W fun e w' => ∃ g : Nat, e = .returned (.agg #[sl g fs.length]) ∧ OwF W.heap.size w' (sl g fs.length) fs ∧ Below W.heap.size W w') := fun W hb => toDisk_res v fs W L0 ((H.out.keep (B1.out.trans (hb.mono (by omega)))).up (Nat.le_trans B1.out.size hb.size))
      have K3 : Hid (∀ W x, Below w1.heap.size w1 W → RdF W.heap.size W x fs → Calls Tryz.prog 6 #[.agg #[x], .agg #[.int .i64 kd, .string nm, .string tn, .string da]] W fun e w' => Below W.heap.size W w' ∧ ∃ x9 y9, e = .returned (.tuple #[.agg #[.slice x9 S.length y9], .int .i64 q]) ∧ OwF W.heap.size w' (.slice x9 S.length y9) S) := fun W x _ hr => (HP.out x W hr).mono fun e w' hp => PO.out _ _ _ hp
      have PL : Hid (∀ w', Below w1.heap.size w1 w' → w'.cell? ⟨w.heap.size, 0, none⟩ = some v) := fun w' hb => (X1.out.keep hb).2
      have PA : Hid (∀ w', Below w1.heap.size w1 w' → w'.cell? ⟨w.heap.size + 1, 0, none⟩ = some (.int .i64 kd) ∧ w'.cell? ⟨w.heap.size + 1, 1, none⟩ = some (.string nm) ∧ w'.cell? ⟨w.heap.size + 1, 2, none⟩ = some (.string tn) ∧ w'.cell? ⟨w.heap.size + 1, 3, none⟩ = some (.string da)) := fun w' hb => (Y1.out.below hb (by omega)).2
      have T0 : Hid (Below w1.heap.size w1 w1.drew) := (Below.refl _ _).drew
      go_upto_region 8 with fail
      go_cut [6, 7] (fun s6 s7 wx => ∃ A u, s6 = .pointer (some ⟨A, 0, none⟩) ∧ s7 = .int .i64 q ∧ Hid (Got w1 A u S wx))
      case first =>
        refine wp_region_held (S := fun w' => Below w1.heap.size w1 w') (by kernel_rfl) ?_
        change wpAnyH _ _ _ _ _ _ _ _ (World.drew _)
        refine wpAnyH_take (i := 0) (v := .agg #[v]) rfl (by kernel_rfl) (by kernel_rfl) (by kernel_rfl) (fun _ _ _ h => h) (Or.inl ⟨by rfl, ?_⟩) T0.out ?_
        · intro w' hS
          have := PL.out w' hS
          clear hS
          go_simp
        refine wpAnyH_take (i := 2) (v := .agg #[.int .i64 kd, .string nm, .string tn, .string da]) rfl (by kernel_rfl) (by kernel_rfl) (by kernel_rfl) (fun _ _ _ h => h) (Or.inl ⟨by rfl, ?_⟩) T0.out ?_
        · intro w' hS
          have h0 := (PA.out w' hS).1; have h1 := (PA.out w' hS).2.1; have h2 := (PA.out w' hS).2.2.1; have h3 := (PA.out w' hS).2.2.2
          clear hS
          go_simp
        refine wpAnyH_ready (rs := [1, 8]) (by kernel_rfl) (by simp) ?_
        refine AllReadyH.cons rfl (fun K hK => ?_) (AllReadyH.cons rfl (fun K hK => ?_) AllReadyH.nil)
        · go_simp
          refine (K1.out _ T0.out).mono ?_
          rintro e W1 ⟨g1, rfl, ho1, hb1⟩
          have T1 := hideP (T0.out.trans (hb1.mono T0.out.size))
          have R1 := hideP ho1.rd
          refine hK.out _ _ T1.out (fun _ => ?_)
          clear hK hb1 ho1
          refine wpAnyH_ready (rs := [3, 8]) (by kernel_rfl) (by simp) ?_
          refine AllReadyH.cons rfl (fun K hK => ?_) (AllReadyH.cons rfl (fun K hK => ?_) AllReadyH.nil)
          · go_simp
            refine (K2.out _).mono ?_
            rintro e W2 ⟨rfl, hb2⟩
            have T2 := hideP (T1.out.trans (hb2.mono T1.out.size))
            have R2 := hideP ((R1.out.keep hb2).up hb2.size)
            refine hK.out _ _ T2.out (fun _ => ?_)
            clear hK hb2
            refine wpAnyH_ready (rs := [4, 8]) (by kernel_rfl) (by simp) ?_
            refine AllReadyH.cons rfl (fun K hK => ?_) (AllReadyH.cons rfl (fun K hK => ?_) AllReadyH.nil)
            · go_simp
              refine (K3.out _ _ T2.out R2.out).mono ?_
              rintro e W3 ⟨hb3, x9, y9, rfl, ho3⟩
              have T3 := hideP (T2.out.trans (hb3.mono T2.out.size))
              have O3 : Hid (OwF w1.heap.size W3 (.slice x9 S.length y9) S) := ho3.base T2.out.size
              refine hK.out _ _ T3.out (fun _ => ?_)
              clear hK hb3 ho3
              refine wpAnyH_take (i := 5) (v := .tuple #[.agg #[.slice x9 S.length y9], .int .i64 q]) rfl (by kernel_rfl) (by kernel_rfl) (by kernel_rfl) (fun _ _ _ h => h) (Or.inl ⟨by rfl, ?_⟩) T3.out ?_
              · intro w' hS
                clear hS
                go_simp
              refine wpAnyH_take (i := 6) (v := .agg #[.slice x9 S.length y9]) rfl (by kernel_rfl) (by kernel_rfl) (by kernel_rfl) (fun _ _ _ h => h) (Or.inl ⟨by rfl, ?_⟩) T3.out ?_
              · intro w' hS
                clear hS
                go_simp
              refine wpAnyH_take (i := 7) (v := .int .i64 q) rfl (by kernel_rfl) (by kernel_rfl) (by kernel_rfl) (fun _ _ _ h => h) (Or.inl ⟨by rfl, ?_⟩) T3.out ?_
              · intro w' hS
                clear hS
                go_simp
              refine wpAnyH_ready (rs := [8]) (by kernel_rfl) (by simp) ?_
              refine AllReadyH.cons rfl (fun K hK => ?_) AllReadyH.nil
              go_simp
              have F4 : Hid (Below w1.heap.size w1 (W3.alloc (.cells #[.slice none 0 0] 31)) ∧ Slot w1 W3.heap.size (W3.alloc (.cells #[.slice none 0 0] 31)) ∧ Below W3.heap.size W3 (W3.alloc (.cells #[.slice none 0 0] 31))) := ⟨(T3.out.alloc T3.out.size _), Slot.new T3.out.size 31, (Below.refl _ _).alloc (Nat.le_refl _) _⟩
              refine hK.out _ _ F4.out.1 (fun _ => ?_)
              clear hK
              have O4 := hideP (O3.out.keep F4.out.2.2)
              have NA4 : Hid (∀ k, rowOf (.slice x9 S.length y9) S.length = some k → ¬ k = W3.heap.size) := fun k e => by have := (rowOf_ge O3.out k e).2; omega
              have T4 := hideP F4.out.1
              have SL4 := hideP F4.out.2.1
              clear F4
              generalize W3.alloc (.cells #[.slice none 0 0] 31) = W4 at *
              refine wpAnyH_ready (rs := [9]) (by kernel_rfl) (by simp) ?_
              refine AllReadyH.cons rfl (fun K hK => ?_) AllReadyH.nil
              have GT := hideP (got_of T4.out SL4.out O4.out NA4.out)
              have hA1 := SL4.out.2.1
              have cA := SL4.out.2.2.1
              have fA := SL4.out.2.2.2
              go_simp
              refine hK.out _ _ GT.out.bel (fun _ => ?_)
              clear hK
              refine wpAnyH_ready (rs := [10]) (by kernel_rfl) (by simp) ?_
              refine AllReadyH.cons rfl (fun K hK => ?_) AllReadyH.nil
              go_simp
              refine hK.out _ _ GT.out.bel (fun _ => ?_)
              clear hK
              refine wpAnyH_done (by kernel_rfl) ?_ _
              clear cA fA hA1
              go_wp2_with fail
              go_meet
              case rel => exact ⟨_, _, rfl, rfl, GT⟩
            · go_simp
              have F5 : Hid (Below w1.heap.size w1 (W2.alloc (.cells #[.slice none 0 0] 31)) ∧ Slot w1 W2.heap.size (W2.alloc (.cells #[.slice none 0 0] 31)) ∧ Below W2.heap.size W2 (W2.alloc (.cells #[.slice none 0 0] 31))) := ⟨(T2.out.alloc T2.out.size _), Slot.new T2.out.size 31, (Below.refl _ _).alloc (Nat.le_refl _) _⟩
              refine hK.out _ _ F5.out.1 (fun _ => ?_)
              clear hK
              have R5 := hideP ((R2.out.keep F5.out.2.2).up F5.out.2.2.size)
              have T5 := hideP F5.out.1
              have SL5 := hideP F5.out.2.1
              clear F5
              generalize W2.alloc (.cells #[.slice none 0 0] 31) = W5 at *
              refine wpAnyH_ready (rs := [4]) (by kernel_rfl) (by simp) ?_
              refine AllReadyH.cons rfl (fun K hK => ?_) AllReadyH.nil
              go_simp
              refine (K3.out _ _ T5.out R5.out).mono ?_
              rintro e W6 ⟨hb6, x9, y9, rfl, ho6⟩
              have T6 := hideP (T5.out.trans (hb6.mono T5.out.size))
              have SL6 := hideP (SL5.out.keep hb6)
              have NA6 : Hid (∀ k, rowOf (.slice x9 S.length y9) S.length = some k → ¬ k = W2.heap.size) := fun k e => by have := (rowOf_ge ho6 k e).1; have := SL5.out.2.1; omega
              have O6 : Hid (OwF w1.heap.size W6 (.slice x9 S.length y9) S) := ho6.base T5.out.size
              refine hK.out _ _ T6.out (fun _ => ?_)
              clear hK hb6 ho6
              refine wpAnyH_take (i := 5) (v := .tuple #[.agg #[.slice x9 S.length y9], .int .i64 q]) rfl (by kernel_rfl) (by kernel_rfl) (by kernel_rfl) (fun _ _ _ h => h) (Or.inl ⟨by rfl, ?_⟩) T6.out ?_
              · intro w' hS
                clear hS
                go_simp
              refine wpAnyH_take (i := 6) (v := .agg #[.slice x9 S.length y9]) rfl (by kernel_rfl) (by kernel_rfl) (by kernel_rfl) (fun _ _ _ h => h) (Or.inl ⟨by rfl, ?_⟩) T6.out ?_
              · intro w' hS
                clear hS
                go_simp
              refine wpAnyH_take (i := 7) (v := .int .i64 q) rfl (by kernel_rfl) (by kernel_rfl) (by kernel_rfl) (fun _ _ _ h => h) (Or.inl ⟨by rfl, ?_⟩) T6.out ?_
              · intro w' hS
                clear hS
                go_simp
              refine wpAnyH_ready (rs := [9]) (by kernel_rfl) (by simp) ?_
              refine AllReadyH.cons rfl (fun K hK => ?_) AllReadyH.nil
              have GT := hideP (got_of T6.out SL6.out O6.out NA6.out)
              have hA1 := SL6.out.2.1
              have cA := SL6.out.2.2.1
              have fA := SL6.out.2.2.2
              go_simp
              refine hK.out _ _ GT.out.bel (fun _ => ?_)
              clear hK
              refine wpAnyH_ready (rs := [10]) (by kernel_rfl) (by simp) ?_
              refine AllReadyH.cons rfl (fun K hK => ?_) AllReadyH.nil
              go_simp
              refine hK.out _ _ GT.out.bel (fun _ => ?_)
              clear hK
              refine wpAnyH_done (by kernel_rfl) ?_ _
              clear cA fA hA1
              go_wp2_with fail
              go_meet
              case rel => exact ⟨_, _, rfl, rfl, GT⟩
          · go_simp
            have F7 : Hid (Below w1.heap.size w1 (W1.alloc (.cells #[.slice none 0 0] 31)) ∧ Slot w1 W1.heap.size (W1.alloc (.cells #[.slice none 0 0] 31)) ∧ Below W1.heap.size W1 (W1.alloc (.cells #[.slice none 0 0] 31))) := ⟨(T1.out.alloc T1.out.size _), Slot.new T1.out.size 31, (Below.refl _ _).alloc (Nat.le_refl _) _⟩
            refine hK.out _ _ F7.out.1 (fun _ => ?_)
            clear hK
            have R7 := hideP ((R1.out.keep F7.out.2.2).up F7.out.2.2.size)
            have T7 := hideP F7.out.1
            have SL7 := hideP F7.out.2.1
            clear F7
            generalize W1.alloc (.cells #[.slice none 0 0] 31) = W7 at *
            refine wpAnyH_ready (rs := [3]) (by kernel_rfl) (by simp) ?_
            refine AllReadyH.cons rfl (fun K hK => ?_) AllReadyH.nil
            go_simp
            refine (K2.out _).mono ?_
            rintro e W8 ⟨rfl, hb8⟩
            have T8 := hideP (T7.out.trans (hb8.mono T7.out.size))
            have SL8 := hideP (SL7.out.keep hb8)
            have R8 := hideP ((R7.out.keep hb8).up hb8.size)
            refine hK.out _ _ T8.out (fun _ => ?_)
            clear hK hb8
            refine wpAnyH_ready (rs := [4]) (by kernel_rfl) (by simp) ?_
            refine AllReadyH.cons rfl (fun K hK => ?_) AllReadyH.nil
            go_simp
            refine (K3.out _ _ T8.out R8.out).mono ?_
            rintro e W9 ⟨hb9, x9, y9, rfl, ho9⟩
            have T9 := hideP (T8.out.trans (hb9.mono T8.out.size))
            have SL9 := hideP (SL8.out.keep hb9)
            have NA9 : Hid (∀ k, rowOf (.slice x9 S.length y9) S.length = some k → ¬ k = W1.heap.size) := fun k e => by have := (rowOf_ge ho9 k e).1; have := SL8.out.2.1; omega
            have O9 : Hid (OwF w1.heap.size W9 (.slice x9 S.length y9) S) := ho9.base T8.out.size
            refine hK.out _ _ T9.out (fun _ => ?_)
            clear hK hb9 ho9
            refine wpAnyH_take (i := 5) (v := .tuple #[.agg #[.slice x9 S.length y9], .int .i64 q]) rfl (by kernel_rfl) (by kernel_rfl) (by kernel_rfl) (fun _ _ _ h => h) (Or.inl ⟨by rfl, ?_⟩) T9.out ?_
            · intro w' hS
              clear hS
              go_simp
            refine wpAnyH_take (i := 6) (v := .agg #[.slice x9 S.length y9]) rfl (by kernel_rfl) (by kernel_rfl) (by kernel_rfl) (fun _ _ _ h => h) (Or.inl ⟨by rfl, ?_⟩) T9.out ?_
            · intro w' hS
              clear hS
              go_simp
            refine wpAnyH_take (i := 7) (v := .int .i64 q) rfl (by kernel_rfl) (by kernel_rfl) (by kernel_rfl) (fun _ _ _ h => h) (Or.inl ⟨by rfl, ?_⟩) T9.out ?_
            · intro w' hS
              clear hS
              go_simp
            refine wpAnyH_ready (rs := [9]) (by kernel_rfl) (by simp) ?_
            refine AllReadyH.cons rfl (fun K hK => ?_) AllReadyH.nil
            have GT := hideP (got_of T9.out SL9.out O9.out NA9.out)
            have hA1 := SL9.out.2.1
            have cA := SL9.out.2.2.1
            have fA := SL9.out.2.2.2
            go_simp
            refine hK.out _ _ GT.out.bel (fun _ => ?_)
            clear hK
            refine wpAnyH_ready (rs := [10]) (by kernel_rfl) (by simp) ?_
            refine AllReadyH.cons rfl (fun K hK => ?_) AllReadyH.nil
            go_simp
            refine hK.out _ _ GT.out.bel (fun _ => ?_)
            clear hK
            refine wpAnyH_done (by kernel_rfl) ?_ _
            clear cA fA hA1
            go_wp2_with fail
            go_meet
            case rel => exact ⟨_, _, rfl, rfl, GT⟩
        · go_simp
          have F10 : Hid (Below w1.heap.size w1 ((w1.alloc (.cells #[.slice none 0 0] 31)).drew) ∧ Slot w1 w1.heap.size ((w1.alloc (.cells #[.slice none 0 0] 31)).drew) ∧ Below w1.heap.size w1 ((w1.alloc (.cells #[.slice none 0 0] 31)).drew)) := ⟨(((Below.refl _ _).alloc (Nat.le_refl _) _).drew), Slot.drew (Slot.new (Nat.le_refl _) 31), ((Below.refl _ _).alloc (Nat.le_refl _) _).drew⟩
          refine hK.out _ _ F10.out.1 (fun _ => ?_)
          clear hK
          have T10 := hideP F10.out.1
          have SL10 := hideP F10.out.2.1
          clear F10
          generalize (w1.alloc (.cells #[.slice none 0 0] 31)).drew = W10 at *
          refine wpAnyH_ready (rs := [1]) (by kernel_rfl) (by simp) ?_
          refine AllReadyH.cons rfl (fun K hK => ?_) AllReadyH.nil
          go_simp
          refine (K1.out _ T10.out).mono ?_
          rintro e W11 ⟨g11, rfl, ho11, hb11⟩
          have T11 := hideP (T10.out.trans (hb11.mono T10.out.size))
          have SL11 := hideP (SL10.out.keep hb11)
          have R11 := hideP ho11.rd
          refine hK.out _ _ T11.out (fun _ => ?_)
          clear hK hb11 ho11
          refine wpAnyH_ready (rs := [3]) (by kernel_rfl) (by simp) ?_
          refine AllReadyH.cons rfl (fun K hK => ?_) AllReadyH.nil
          go_simp
          refine (K2.out _).mono ?_
          rintro e W12 ⟨rfl, hb12⟩
          have T12 := hideP (T11.out.trans (hb12.mono T11.out.size))
          have SL12 := hideP (SL11.out.keep hb12)
          have R12 := hideP ((R11.out.keep hb12).up hb12.size)
          refine hK.out _ _ T12.out (fun _ => ?_)
          clear hK hb12
          refine wpAnyH_ready (rs := [4]) (by kernel_rfl) (by simp) ?_
          refine AllReadyH.cons rfl (fun K hK => ?_) AllReadyH.nil
          go_simp
          refine (K3.out _ _ T12.out R12.out).mono ?_
          rintro e W13 ⟨hb13, x9, y9, rfl, ho13⟩
          have T13 := hideP (T12.out.trans (hb13.mono T12.out.size))
          have SL13 := hideP (SL12.out.keep hb13)
          have NA13 : Hid (∀ k, rowOf (.slice x9 S.length y9) S.length = some k → ¬ k = w1.heap.size) := fun k e => by have := (rowOf_ge ho13 k e).1; have := SL12.out.2.1; omega
          have O13 : Hid (OwF w1.heap.size W13 (.slice x9 S.length y9) S) := ho13.base T12.out.size
          refine hK.out _ _ T13.out (fun _ => ?_)
          clear hK hb13 ho13
          refine wpAnyH_take (i := 5) (v := .tuple #[.agg #[.slice x9 S.length y9], .int .i64 q]) rfl (by kernel_rfl) (by kernel_rfl) (by kernel_rfl) (fun _ _ _ h => h) (Or.inl ⟨by rfl, ?_⟩) T13.out ?_
          · intro w' hS
            clear hS
            go_simp
          refine wpAnyH_take (i := 6) (v := .agg #[.slice x9 S.length y9]) rfl (by kernel_rfl) (by kernel_rfl) (by kernel_rfl) (fun _ _ _ h => h) (Or.inl ⟨by rfl, ?_⟩) T13.out ?_
          · intro w' hS
            clear hS
            go_simp
          refine wpAnyH_take (i := 7) (v := .int .i64 q) rfl (by kernel_rfl) (by kernel_rfl) (by kernel_rfl) (fun _ _ _ h => h) (Or.inl ⟨by rfl, ?_⟩) T13.out ?_
          · intro w' hS
            clear hS
            go_simp
          refine wpAnyH_ready (rs := [9]) (by kernel_rfl) (by simp) ?_
          refine AllReadyH.cons rfl (fun K hK => ?_) AllReadyH.nil
          have GT := hideP (got_of T13.out SL13.out O13.out NA13.out)
          have hA1 := SL13.out.2.1
          have cA := SL13.out.2.2.1
          have fA := SL13.out.2.2.2
          go_simp
          refine hK.out _ _ GT.out.bel (fun _ => ?_)
          clear hK
          refine wpAnyH_ready (rs := [10]) (by kernel_rfl) (by simp) ?_
          refine AllReadyH.cons rfl (fun K hK => ?_) AllReadyH.nil
          go_simp
          refine hK.out _ _ GT.out.bel (fun _ => ?_)
          clear hK
          refine wpAnyH_done (by kernel_rfl) ?_ _
          clear cA fA hA1
          go_wp2_with fail
          go_meet
          case rel => exact ⟨_, _, rfl, rfl, GT⟩
      case rest =>
        rename World => wo
        obtain ⟨A, u, rfl, rfl, G⟩ := hcut
        have E3 : Hid (Env w A wo.heap.size v kd nm tn da u S wo) :=
          ⟨B1.out.trans (G.out.bel.mono (by omega)), by have := G.out.lo; omega, G.out.box.1, Nat.le_refl _, X1.out.keep G.out.bel, Y1.out.below G.out.bel (by omega), G.out.box, G.out.res.rd⟩
        have szo : w.heap.size + 1 + 1 ≤ wo.heap.size := by have := G.out.bel.size; omega
        obtain ⟨a0, d0, e0⟩ := G.out.res.form
        subst e0
        clear G K1 K3 PL PA T0 X1 Y1 B1 HP B0
        obtain ⟨_, c3⟩ := E3.out.box
        go_wp2_with fail
        -- the copy that the program gets
        have Q3 := hideP ((H.out.keep E3.out.bel).up E3.out.bel.size)
        refine (toDisk_res v fs _ L0 Q3.out).mono ?_
        rintro e w4 ⟨x0, rfl, res4, hb4⟩
        have sz4 : wo.heap.size ≤ w4.heap.size := hb4.size
        have A4 := hideP (Arr.new res4 31)
        have E4 := hideP ((E3.out.keep hb4).keep ((Below.refl _ _).alloc (Nat.le_refl _) (.cells #[sl x0 fs.length] 31)))
        clear hb4 res4 c3 E3 Q3
        go_upto_region 10 with fail
        generalize w4.alloc (.cells #[sl x0 fs.length] 31) = w5 at *
        have sz5 : w4.heap.size < w5.heap.size := A4.out.box.1
        have RX : Hid (∀ W, Below w5.heap.size w5 W → RdF W.heap.size W (sl x0 fs.length) fs) := fun W hb => (A4.out.res.keep hb).rd
        have K3 : Hid (∀ W x, Below w5.heap.size w5 W → RdF W.heap.size W x fs → Calls Tryz.prog 9 #[.agg #[x], .agg #[.int .i64 kd, .string nm, .string tn, .string da]] W fun e w' => Below W.heap.size W w' ∧ ∃ x9 y9, e = .returned (.tuple #[.agg #[.slice x9 S.length y9], .int .i64 q]) ∧ OwF W.heap.size w' (.slice x9 S.length y9) S) := fun W x hb hr => (HI.out x W (E4.out.bel.trans (hb.mono E4.out.bel.size)) hr).mono fun e w' hp => PO.out _ _ _ hp
        have PL : Hid (∀ w', Below w5.heap.size w5 w' → w'.cell? ⟨w4.heap.size, 0, none⟩ = some (sl x0 fs.length)) := fun w' hb => (A4.out.box.keep hb).2
        have PA : Hid (∀ w', Below w5.heap.size w5 w' → w'.cell? ⟨w.heap.size + 1, 0, none⟩ = some (.int .i64 kd) ∧ w'.cell? ⟨w.heap.size + 1, 1, none⟩ = some (.string nm) ∧ w'.cell? ⟨w.heap.size + 1, 2, none⟩ = some (.string tn) ∧ w'.cell? ⟨w.heap.size + 1, 3, none⟩ = some (.string da)) := fun w' hb => (E4.out.keep hb).act.2
        have T0 : Hid (Below w5.heap.size w5 w5.drew) := (Below.refl _ _).drew
        go_cut [9, 10] (fun s6 s7 wx => ∃ A u, s6 = .pointer (some ⟨A, 0, none⟩) ∧ s7 = .int .i64 q ∧ Hid (Got w5 A u S wx))
        case first =>
          refine wp_region_held (S := fun w' => Below w5.heap.size w5 w') (by kernel_rfl) ?_
          change wpAnyH _ _ _ _ _ _ _ _ (World.drew _)
          refine wpAnyH_take (i := 0) (v := .agg #[sl x0 fs.length]) rfl (by kernel_rfl) (by kernel_rfl) (by kernel_rfl) (fun _ _ _ h => h) (Or.inl ⟨by rfl, ?_⟩) T0.out ?_
          · intro w' hS
            have := PL.out w' hS
            clear hS
            go_simp
          refine wpAnyH_take (i := 1) (v := .agg #[.int .i64 kd, .string nm, .string tn, .string da]) rfl (by kernel_rfl) (by kernel_rfl) (by kernel_rfl) (fun _ _ _ h => h) (Or.inl ⟨by rfl, ?_⟩) T0.out ?_
          · intro w' hS
            have h0 := (PA.out w' hS).1; have h1 := (PA.out w' hS).2.1; have h2 := (PA.out w' hS).2.2.1; have h3 := (PA.out w' hS).2.2.2
            clear hS
            go_simp
          refine wpAnyH_ready (rs := [2, 7]) (by kernel_rfl) (by simp) ?_
          refine AllReadyH.cons rfl (fun K hK => ?_) (AllReadyH.cons rfl (fun K hK => ?_) AllReadyH.nil)
          · go_simp
            refine (K2.out _).mono ?_
            rintro e W1 ⟨rfl, hb1⟩
            have T1 := hideP (T0.out.trans (hb1.mono T0.out.size))
            refine hK.out _ _ T1.out (fun _ => ?_)
            clear hK hb1
            refine wpAnyH_ready (rs := [3, 7]) (by kernel_rfl) (by simp) ?_
            refine AllReadyH.cons rfl (fun K hK => ?_) (AllReadyH.cons rfl (fun K hK => ?_) AllReadyH.nil)
            · go_simp
              refine (K3.out _ _ T1.out (RX.out _ T1.out)).mono ?_
              rintro e W2 ⟨hb2, x9, y9, rfl, ho2⟩
              have T2 := hideP (T1.out.trans (hb2.mono T1.out.size))
              have O2 : Hid (OwF w5.heap.size W2 (.slice x9 S.length y9) S) := ho2.base T1.out.size
              refine hK.out _ _ T2.out (fun _ => ?_)
              clear hK hb2 ho2
              refine wpAnyH_take (i := 4) (v := .tuple #[.agg #[.slice x9 S.length y9], .int .i64 q]) rfl (by kernel_rfl) (by kernel_rfl) (by kernel_rfl) (fun _ _ _ h => h) (Or.inl ⟨by rfl, ?_⟩) T2.out ?_
              · intro w' hS
                clear hS
                go_simp
              refine wpAnyH_take (i := 5) (v := .agg #[.slice x9 S.length y9]) rfl (by kernel_rfl) (by kernel_rfl) (by kernel_rfl) (fun _ _ _ h => h) (Or.inl ⟨by rfl, ?_⟩) T2.out ?_
              · intro w' hS
                clear hS
                go_simp
              refine wpAnyH_take (i := 6) (v := .int .i64 q) rfl (by kernel_rfl) (by kernel_rfl) (by kernel_rfl) (fun _ _ _ h => h) (Or.inl ⟨by rfl, ?_⟩) T2.out ?_
              · intro w' hS
                clear hS
                go_simp
              refine wpAnyH_ready (rs := [7]) (by kernel_rfl) (by simp) ?_
              refine AllReadyH.cons rfl (fun K hK => ?_) AllReadyH.nil
              go_simp
              have F3 : Hid (Below w5.heap.size w5 (W2.alloc (.cells #[.slice none 0 0] 31)) ∧ Slot w5 W2.heap.size (W2.alloc (.cells #[.slice none 0 0] 31)) ∧ Below W2.heap.size W2 (W2.alloc (.cells #[.slice none 0 0] 31))) := ⟨(T2.out.alloc T2.out.size _), Slot.new T2.out.size 31, (Below.refl _ _).alloc (Nat.le_refl _) _⟩
              refine hK.out _ _ F3.out.1 (fun _ => ?_)
              clear hK
              have O3 := hideP (O2.out.keep F3.out.2.2)
              have NA3 : Hid (∀ k, rowOf (.slice x9 S.length y9) S.length = some k → ¬ k = W2.heap.size) := fun k e => by have := (rowOf_ge O2.out k e).2; omega
              have T3 := hideP F3.out.1
              have SL3 := hideP F3.out.2.1
              clear F3
              generalize W2.alloc (.cells #[.slice none 0 0] 31) = W3 at *
              refine wpAnyH_ready (rs := [8]) (by kernel_rfl) (by simp) ?_
              refine AllReadyH.cons rfl (fun K hK => ?_) AllReadyH.nil
              have GT := hideP (got_of T3.out SL3.out O3.out NA3.out)
              have hA1 := SL3.out.2.1
              have cA := SL3.out.2.2.1
              have fA := SL3.out.2.2.2
              go_simp
              refine hK.out _ _ GT.out.bel (fun _ => ?_)
              clear hK
              refine wpAnyH_ready (rs := [9]) (by kernel_rfl) (by simp) ?_
              refine AllReadyH.cons rfl (fun K hK => ?_) AllReadyH.nil
              go_simp
              refine hK.out _ _ GT.out.bel (fun _ => ?_)
              clear hK
              refine wpAnyH_done (by kernel_rfl) ?_ _
              clear cA fA hA1
              go_wp2_with fail
              go_meet
              case rel => exact ⟨_, _, rfl, rfl, GT⟩
            · go_simp
              have F4 : Hid (Below w5.heap.size w5 (W1.alloc (.cells #[.slice none 0 0] 31)) ∧ Slot w5 W1.heap.size (W1.alloc (.cells #[.slice none 0 0] 31)) ∧ Below W1.heap.size W1 (W1.alloc (.cells #[.slice none 0 0] 31))) := ⟨(T1.out.alloc T1.out.size _), Slot.new T1.out.size 31, (Below.refl _ _).alloc (Nat.le_refl _) _⟩
              refine hK.out _ _ F4.out.1 (fun _ => ?_)
              clear hK
              have T4 := hideP F4.out.1
              have SL4 := hideP F4.out.2.1
              clear F4
              generalize W1.alloc (.cells #[.slice none 0 0] 31) = W4 at *
              refine wpAnyH_ready (rs := [3]) (by kernel_rfl) (by simp) ?_
              refine AllReadyH.cons rfl (fun K hK => ?_) AllReadyH.nil
              go_simp
              refine (K3.out _ _ T4.out (RX.out _ T4.out)).mono ?_
              rintro e W5 ⟨hb5, x9, y9, rfl, ho5⟩
              have T5 := hideP (T4.out.trans (hb5.mono T4.out.size))
              have SL5 := hideP (SL4.out.keep hb5)
              have NA5 : Hid (∀ k, rowOf (.slice x9 S.length y9) S.length = some k → ¬ k = W1.heap.size) := fun k e => by have := (rowOf_ge ho5 k e).1; have := SL4.out.2.1; omega
              have O5 : Hid (OwF w5.heap.size W5 (.slice x9 S.length y9) S) := ho5.base T4.out.size
              refine hK.out _ _ T5.out (fun _ => ?_)
              clear hK hb5 ho5
              refine wpAnyH_take (i := 4) (v := .tuple #[.agg #[.slice x9 S.length y9], .int .i64 q]) rfl (by kernel_rfl) (by kernel_rfl) (by kernel_rfl) (fun _ _ _ h => h) (Or.inl ⟨by rfl, ?_⟩) T5.out ?_
              · intro w' hS
                clear hS
                go_simp
              refine wpAnyH_take (i := 5) (v := .agg #[.slice x9 S.length y9]) rfl (by kernel_rfl) (by kernel_rfl) (by kernel_rfl) (fun _ _ _ h => h) (Or.inl ⟨by rfl, ?_⟩) T5.out ?_
              · intro w' hS
                clear hS
                go_simp
              refine wpAnyH_take (i := 6) (v := .int .i64 q) rfl (by kernel_rfl) (by kernel_rfl) (by kernel_rfl) (fun _ _ _ h => h) (Or.inl ⟨by rfl, ?_⟩) T5.out ?_
              · intro w' hS
                clear hS
                go_simp
              refine wpAnyH_ready (rs := [8]) (by kernel_rfl) (by simp) ?_
              refine AllReadyH.cons rfl (fun K hK => ?_) AllReadyH.nil
              have GT := hideP (got_of T5.out SL5.out O5.out NA5.out)
              have hA1 := SL5.out.2.1
              have cA := SL5.out.2.2.1
              have fA := SL5.out.2.2.2
              go_simp
              refine hK.out _ _ GT.out.bel (fun _ => ?_)
              clear hK
              refine wpAnyH_ready (rs := [9]) (by kernel_rfl) (by simp) ?_
              refine AllReadyH.cons rfl (fun K hK => ?_) AllReadyH.nil
              go_simp
              refine hK.out _ _ GT.out.bel (fun _ => ?_)
              clear hK
              refine wpAnyH_done (by kernel_rfl) ?_ _
              clear cA fA hA1
              go_wp2_with fail
              go_meet
              case rel => exact ⟨_, _, rfl, rfl, GT⟩
          · go_simp
            have F6 : Hid (Below w5.heap.size w5 ((w5.alloc (.cells #[.slice none 0 0] 31)).drew) ∧ Slot w5 w5.heap.size ((w5.alloc (.cells #[.slice none 0 0] 31)).drew) ∧ Below w5.heap.size w5 ((w5.alloc (.cells #[.slice none 0 0] 31)).drew)) := ⟨(((Below.refl _ _).alloc (Nat.le_refl _) _).drew), Slot.drew (Slot.new (Nat.le_refl _) 31), ((Below.refl _ _).alloc (Nat.le_refl _) _).drew⟩
            refine hK.out _ _ F6.out.1 (fun _ => ?_)
            clear hK
            have T6 := hideP F6.out.1
            have SL6 := hideP F6.out.2.1
            clear F6
            generalize (w5.alloc (.cells #[.slice none 0 0] 31)).drew = W6 at *
            refine wpAnyH_ready (rs := [2]) (by kernel_rfl) (by simp) ?_
            refine AllReadyH.cons rfl (fun K hK => ?_) AllReadyH.nil
            go_simp
            refine (K2.out _).mono ?_
            rintro e W7 ⟨rfl, hb7⟩
            have T7 := hideP (T6.out.trans (hb7.mono T6.out.size))
            have SL7 := hideP (SL6.out.keep hb7)
            refine hK.out _ _ T7.out (fun _ => ?_)
            clear hK hb7
            refine wpAnyH_ready (rs := [3]) (by kernel_rfl) (by simp) ?_
            refine AllReadyH.cons rfl (fun K hK => ?_) AllReadyH.nil
            go_simp
            refine (K3.out _ _ T7.out (RX.out _ T7.out)).mono ?_
            rintro e W8 ⟨hb8, x9, y9, rfl, ho8⟩
            have T8 := hideP (T7.out.trans (hb8.mono T7.out.size))
            have SL8 := hideP (SL7.out.keep hb8)
            have NA8 : Hid (∀ k, rowOf (.slice x9 S.length y9) S.length = some k → ¬ k = w5.heap.size) := fun k e => by have := (rowOf_ge ho8 k e).1; have := SL7.out.2.1; omega
            have O8 : Hid (OwF w5.heap.size W8 (.slice x9 S.length y9) S) := ho8.base T7.out.size
            refine hK.out _ _ T8.out (fun _ => ?_)
            clear hK hb8 ho8
            refine wpAnyH_take (i := 4) (v := .tuple #[.agg #[.slice x9 S.length y9], .int .i64 q]) rfl (by kernel_rfl) (by kernel_rfl) (by kernel_rfl) (fun _ _ _ h => h) (Or.inl ⟨by rfl, ?_⟩) T8.out ?_
            · intro w' hS
              clear hS
              go_simp
            refine wpAnyH_take (i := 5) (v := .agg #[.slice x9 S.length y9]) rfl (by kernel_rfl) (by kernel_rfl) (by kernel_rfl) (fun _ _ _ h => h) (Or.inl ⟨by rfl, ?_⟩) T8.out ?_
            · intro w' hS
              clear hS
              go_simp
            refine wpAnyH_take (i := 6) (v := .int .i64 q) rfl (by kernel_rfl) (by kernel_rfl) (by kernel_rfl) (fun _ _ _ h => h) (Or.inl ⟨by rfl, ?_⟩) T8.out ?_
            · intro w' hS
              clear hS
              go_simp
            refine wpAnyH_ready (rs := [8]) (by kernel_rfl) (by simp) ?_
            refine AllReadyH.cons rfl (fun K hK => ?_) AllReadyH.nil
            have GT := hideP (got_of T8.out SL8.out O8.out NA8.out)
            have hA1 := SL8.out.2.1
            have cA := SL8.out.2.2.1
            have fA := SL8.out.2.2.2
            go_simp
            refine hK.out _ _ GT.out.bel (fun _ => ?_)
            clear hK
            refine wpAnyH_ready (rs := [9]) (by kernel_rfl) (by simp) ?_
            refine AllReadyH.cons rfl (fun K hK => ?_) AllReadyH.nil
            go_simp
            refine hK.out _ _ GT.out.bel (fun _ => ?_)
            clear hK
            refine wpAnyH_done (by kernel_rfl) ?_ _
            clear cA fA hA1
            go_wp2_with fail
            go_meet
            case rel => exact ⟨_, _, rfl, rfl, GT⟩
        case rest =>
          rename World => wp
          obtain ⟨GA, p, rfl, rfl, G5⟩ := hcut
          have E6 := hideP (E4.out.keep G5.out.bel)
          have A6 := hideP (A4.out.keep G5.out.bel)
          obtain ⟨q0, f0, e0⟩ := G5.out.res.form
          subst e0
          clear RX K3 PL PA T0 E4 A4
          obtain ⟨_, cw⟩ := E6.out.boxW
          obtain ⟨_, cg⟩ := G5.out.box
          have G5 : Hid (Arw w5.heap.size GA (.slice q0 S.length f0) S wp) := ⟨G5.out.box, G5.out.res, G5.out.r, G5.out.lo⟩
          go_wp2_with fail
          refine (eqDisk_same _ _ S _ lS G5.out.res.rd (E6.out.rd.up E6.out.hM)).mono ?_
          rintro e w6 ⟨rfl, hb6⟩
          have E7 := hideP (E6.out.keep hb6)
          have A7 := hideP (A6.out.keep hb6)
          have G7 := hideP (G5.out.keep hb6)
          clear hb6 E6 A6 G5 cw cg
          go_wp2_with fail
          -- the argument is as it was
          have D7 : Hid (Below w6.heap.size w6 w6.drew) := (Below.refl _ _).drew
          have PL8 : Hid (∀ w', Below w6.heap.size w6 w' → w'.cell? ⟨w4.heap.size, 0, none⟩ = some (sl x0 fs.length)) := fun w' h => (A7.out.box.keep h).2
          have PL3 : Hid (∀ w', Below w6.heap.size w6 w' → w'.cell? ⟨w.heap.size, 0, none⟩ = some v) := fun w' h => (E7.out.box.keep h).2
          refine wp_region_held (S := fun w' => Below w6.heap.size w6 w') (by kernel_rfl) ?_
          change wpAnyH _ _ _ _ _ _ _ _ (World.drew _)
          refine wpAnyH_take (i := 0) (v := .agg #[sl x0 fs.length]) rfl (by kernel_rfl) (by kernel_rfl) (by kernel_rfl) (fun _ _ _ h => h) (Or.inl ⟨by rfl, ?_⟩) D7.out ?_
          · intro w' hS
            have := PL8.out w' hS
            clear hS
            go_simp
          refine wpAnyH_take (i := 1) (v := .agg #[v]) rfl (by kernel_rfl) (by kernel_rfl) (by kernel_rfl) (fun _ _ _ h => h) (Or.inl ⟨by rfl, ?_⟩) D7.out ?_
          · intro w' hS
            have := PL3.out w' hS
            clear hS
            go_simp
          refine wpAnyH_ready (rs := [2]) (by kernel_rfl) (by simp) ?_
          refine AllReadyH.cons rfl (fun K hK => ?_) AllReadyH.nil
          go_simp
          have Q7 : Hid (RdF w6.drew.heap.size w6.drew v fs) := (H.out.keep E7.out.bel.drew).up E7.out.bel.size
          refine (toDisk_res v fs w6.drew L0 Q7.out).mono ?_
          rintro e w7 ⟨y0, rfl, res7, hb7⟩
          have B7 := hideP (D7.out.trans hb7)
          have E8 := hideP (E7.out.keep B7.out)
          have A8 := hideP (A7.out.keep B7.out)
          have G8 := hideP (G7.out.keep B7.out)
          have R7 := hideP res7.rd
          clear res7 hb7 Q7 PL8 PL3 D7
          refine hK.out _ _ B7.out (fun _ => ?_)
          clear hK
          refine wpAnyH_ready (rs := [3]) (by kernel_rfl) (by simp) ?_
          refine AllReadyH.cons rfl (fun K hK => ?_) AllReadyH.nil
          go_simp
          refine (eqDisk_same _ _ fs _ L0 A8.out.res.rd R7.out).mono ?_
          rintro e w8 ⟨rfl, hb8⟩
          have E9 := hideP (E8.out.keep hb8)
          have A9 := hideP (A8.out.keep hb8)
          have G9 := hideP (G8.out.keep hb8)
          have B8 := hideP (B7.out.trans (hb8.mono B7.out.size))
          clear hb8 E8 A8 G8 R7 E7 A7 G7 B7
          refine hK.out _ _ B8.out (fun _ => ?_)
          clear hK
          refine wpAnyH_ready (rs := [4]) (by kernel_rfl) (by simp) ?_
          refine AllReadyH.cons rfl (fun K hK => ?_) AllReadyH.nil
          go_simp
          refine hK.out _ _ B8.out (fun _ => ?_)
          clear hK B8
          refine wpAnyH_done (by kernel_rfl) ?_ _
          obtain ⟨_, cx⟩ := A9.out.box
          go_wp2_with fail
          -- the argument is marked
          refine (markDisk_any _ _ fs _ L0 A9.out.res).mono ?_
          rintro e w9 ⟨rfl, hk9, _⟩
          have E10 := hideP (E9.out.below (grown_below (B := wo.heap.size) hk9 E9.out.hM (fun k e => (rowOf_ge A9.out.res k e).1)) (Nat.le_refl _))
          have G10 := hideP (G9.out.grown hk9 (fun k e => by have := A9.out.r k e; omega))
          clear hk9 cx A9 E9 G9
          obtain ⟨_, cw⟩ := E10.out.boxW
          obtain ⟨_, cg⟩ := G10.out.box
          obtain ⟨mk, hmk⟩ : ∃ mk : Int, ((1 + 2 * fs.length : Nat) : Int) = mk := ⟨_, rfl⟩
          rw [hmk]
          have kn : ¬ (mk < 0) := by omega
          clear hmk
          go_wp2_with fail
          refine (eqDisk_same _ _ S _ lS G10.out.res.rd (E10.out.rd.up E10.out.hM)).mono ?_
          rintro e w10 ⟨rfl, hb10⟩
          have E11 := hideP (E10.out.keep hb10)
          have G11 := hideP (G10.out.keep hb10)
          clear hb10 E10 G10 cw cg
          obtain ⟨_, cg⟩ := G11.out.box
          go_wp2_with fail
          -- the answer is marked
          refine (markDisk_any _ _ S _ lS G11.out.res).mono ?_
          rintro e w11 ⟨rfl, hk11, res11⟩
          have hb11 := grown_below (B := w5.heap.size) hk11 (Nat.le_trans G11.out.hB (Nat.le_of_lt G11.out.box.1)) (fun k e => (rowOf_ge G11.out.res k e).1)
          have E12 := hideP (E11.out.below hb11 (by omega))
          have X12 := hideP (G11.out.box.grown hk11 (fun k e => G11.out.r k e))
          have R12 := hideP res11.rd
          clear hk11 res11 hb11 E11 G11 cg
          obtain ⟨_, cg⟩ := X12.out
          obtain ⟨mq, hmq⟩ : ∃ mq : Int, ((1 + 2 * S.length : Nat) : Int) = mq := ⟨_, rfl⟩
          have KH := hideP (fun w' u' => heldDisk_any u' S.length w' lS)
          rw [hmq] at KH ⊢
          have qn : ¬ (mq < 0) := by omega
          clear hmq
          go_wp2_with fail
          refine (KH.out _ _ R12.out).mono ?_
          rintro e w12 ⟨rfl, hb12⟩
          have E13 := hideP (E12.out.keep hb12)
          clear hb12 E12 X12 R12 cg KH
          -- once more
          have K1 : Hid (∀ W, Below w12.heap.size w12 W → Calls Tryz.prog 7 #[.agg #[v]] W fun e w' => ∃ g : Nat, e = .returned (.agg #[sl g fs.length]) ∧ OwF W.heap.size w' (sl g fs.length) fs ∧ Below W.heap.size W w') := fun W hb => toDisk_res v fs W L0 ((H.out.keep (E13.out.bel.trans (hb.mono E13.out.bel.size))).up (Nat.le_trans E13.out.bel.size hb.size))
          have K3 : Hid (∀ W x, Below w12.heap.size w12 W → RdF W.heap.size W x fs → Calls Tryz.prog 9 #[.agg #[x], .agg #[.int .i64 kd, .string nm, .string tn, .string da]] W fun e w' => Below W.heap.size W w' ∧ ∃ x9 y9, e = .returned (.tuple #[.agg #[.slice x9 S.length y9], .int .i64 q]) ∧ OwF W.heap.size w' (.slice x9 S.length y9) S) := fun W x hb hr => (HI.out x W (E13.out.bel.trans (hb.mono E13.out.bel.size)) hr).mono fun e w' hp => PO.out _ _ _ hp
          have PL : Hid (∀ w', Below w12.heap.size w12 w' → w'.cell? ⟨w.heap.size, 0, none⟩ = some v) := fun w' hb => (E13.out.keep hb).box.2
          have PA : Hid (∀ w', Below w12.heap.size w12 w' → w'.cell? ⟨w.heap.size + 1, 0, none⟩ = some (.int .i64 kd) ∧ w'.cell? ⟨w.heap.size + 1, 1, none⟩ = some (.string nm) ∧ w'.cell? ⟨w.heap.size + 1, 2, none⟩ = some (.string tn) ∧ w'.cell? ⟨w.heap.size + 1, 3, none⟩ = some (.string da)) := fun w' hb => (E13.out.keep hb).act.2
          have T0 : Hid (Below w12.heap.size w12 w12.drew) := (Below.refl _ _).drew
          go_upto_region 27 with fail
          go_cut [14, 15] (fun s6 s7 wx => ∃ A u, s6 = .pointer (some ⟨A, 0, none⟩) ∧ s7 = .int .i64 q ∧ Hid (Got w12 A u S wx))
          case first =>
            refine wp_region_held (S := fun w' => Below w12.heap.size w12 w') (by kernel_rfl) ?_
            change wpAnyH _ _ _ _ _ _ _ _ (World.drew _)
            refine wpAnyH_take (i := 0) (v := .agg #[v]) rfl (by kernel_rfl) (by kernel_rfl) (by kernel_rfl) (fun _ _ _ h => h) (Or.inl ⟨by rfl, ?_⟩) T0.out ?_
            · intro w' hS
              have := PL.out w' hS
              clear hS
              go_simp
            refine wpAnyH_take (i := 2) (v := .agg #[.int .i64 kd, .string nm, .string tn, .string da]) rfl (by kernel_rfl) (by kernel_rfl) (by kernel_rfl) (fun _ _ _ h => h) (Or.inl ⟨by rfl, ?_⟩) T0.out ?_
            · intro w' hS
              have h0 := (PA.out w' hS).1; have h1 := (PA.out w' hS).2.1; have h2 := (PA.out w' hS).2.2.1; have h3 := (PA.out w' hS).2.2.2
              clear hS
              go_simp
            refine wpAnyH_ready (rs := [1, 8]) (by kernel_rfl) (by simp) ?_
            refine AllReadyH.cons rfl (fun K hK => ?_) (AllReadyH.cons rfl (fun K hK => ?_) AllReadyH.nil)
            · go_simp
              refine (K1.out _ T0.out).mono ?_
              rintro e W1 ⟨g1, rfl, ho1, hb1⟩
              have T1 := hideP (T0.out.trans (hb1.mono T0.out.size))
              have R1 := hideP ho1.rd
              refine hK.out _ _ T1.out (fun _ => ?_)
              clear hK hb1 ho1
              refine wpAnyH_ready (rs := [3, 8]) (by kernel_rfl) (by simp) ?_
              refine AllReadyH.cons rfl (fun K hK => ?_) (AllReadyH.cons rfl (fun K hK => ?_) AllReadyH.nil)
              · go_simp
                refine (K2.out _).mono ?_
                rintro e W2 ⟨rfl, hb2⟩
                have T2 := hideP (T1.out.trans (hb2.mono T1.out.size))
                have R2 := hideP ((R1.out.keep hb2).up hb2.size)
                refine hK.out _ _ T2.out (fun _ => ?_)
                clear hK hb2
                refine wpAnyH_ready (rs := [4, 8]) (by kernel_rfl) (by simp) ?_
                refine AllReadyH.cons rfl (fun K hK => ?_) (AllReadyH.cons rfl (fun K hK => ?_) AllReadyH.nil)
                · go_simp
                  refine (K3.out _ _ T2.out R2.out).mono ?_
                  rintro e W3 ⟨hb3, x9, y9, rfl, ho3⟩
                  have T3 := hideP (T2.out.trans (hb3.mono T2.out.size))
                  have O3 : Hid (OwF w12.heap.size W3 (.slice x9 S.length y9) S) := ho3.base T2.out.size
                  refine hK.out _ _ T3.out (fun _ => ?_)
                  clear hK hb3 ho3
                  refine wpAnyH_take (i := 5) (v := .tuple #[.agg #[.slice x9 S.length y9], .int .i64 q]) rfl (by kernel_rfl) (by kernel_rfl) (by kernel_rfl) (fun _ _ _ h => h) (Or.inl ⟨by rfl, ?_⟩) T3.out ?_
                  · intro w' hS
                    clear hS
                    go_simp
                  refine wpAnyH_take (i := 6) (v := .agg #[.slice x9 S.length y9]) rfl (by kernel_rfl) (by kernel_rfl) (by kernel_rfl) (fun _ _ _ h => h) (Or.inl ⟨by rfl, ?_⟩) T3.out ?_
                  · intro w' hS
                    clear hS
                    go_simp
                  refine wpAnyH_take (i := 7) (v := .int .i64 q) rfl (by kernel_rfl) (by kernel_rfl) (by kernel_rfl) (fun _ _ _ h => h) (Or.inl ⟨by rfl, ?_⟩) T3.out ?_
                  · intro w' hS
                    clear hS
                    go_simp
                  refine wpAnyH_ready (rs := [8]) (by kernel_rfl) (by simp) ?_
                  refine AllReadyH.cons rfl (fun K hK => ?_) AllReadyH.nil
                  go_simp
                  have F4 : Hid (Below w12.heap.size w12 (W3.alloc (.cells #[.slice none 0 0] 31)) ∧ Slot w12 W3.heap.size (W3.alloc (.cells #[.slice none 0 0] 31)) ∧ Below W3.heap.size W3 (W3.alloc (.cells #[.slice none 0 0] 31))) := ⟨(T3.out.alloc T3.out.size _), Slot.new T3.out.size 31, (Below.refl _ _).alloc (Nat.le_refl _) _⟩
                  refine hK.out _ _ F4.out.1 (fun _ => ?_)
                  clear hK
                  have O4 := hideP (O3.out.keep F4.out.2.2)
                  have NA4 : Hid (∀ k, rowOf (.slice x9 S.length y9) S.length = some k → ¬ k = W3.heap.size) := fun k e => by have := (rowOf_ge O3.out k e).2; omega
                  have T4 := hideP F4.out.1
                  have SL4 := hideP F4.out.2.1
                  clear F4
                  generalize W3.alloc (.cells #[.slice none 0 0] 31) = W4 at *
                  refine wpAnyH_ready (rs := [9]) (by kernel_rfl) (by simp) ?_
                  refine AllReadyH.cons rfl (fun K hK => ?_) AllReadyH.nil
                  have GT := hideP (got_of T4.out SL4.out O4.out NA4.out)
                  have hA1 := SL4.out.2.1
                  have cA := SL4.out.2.2.1
                  have fA := SL4.out.2.2.2
                  go_simp
                  refine hK.out _ _ GT.out.bel (fun _ => ?_)
                  clear hK
                  refine wpAnyH_ready (rs := [10]) (by kernel_rfl) (by simp) ?_
                  refine AllReadyH.cons rfl (fun K hK => ?_) AllReadyH.nil
                  go_simp
                  refine hK.out _ _ GT.out.bel (fun _ => ?_)
                  clear hK
                  refine wpAnyH_done (by kernel_rfl) ?_ _
                  clear cA fA hA1
                  go_wp2_with fail
                  go_meet
                  case rel => exact ⟨_, _, rfl, rfl, GT⟩
                · go_simp
                  have F5 : Hid (Below w12.heap.size w12 (W2.alloc (.cells #[.slice none 0 0] 31)) ∧ Slot w12 W2.heap.size (W2.alloc (.cells #[.slice none 0 0] 31)) ∧ Below W2.heap.size W2 (W2.alloc (.cells #[.slice none 0 0] 31))) := ⟨(T2.out.alloc T2.out.size _), Slot.new T2.out.size 31, (Below.refl _ _).alloc (Nat.le_refl _) _⟩
                  refine hK.out _ _ F5.out.1 (fun _ => ?_)
                  clear hK
                  have R5 := hideP ((R2.out.keep F5.out.2.2).up F5.out.2.2.size)
                  have T5 := hideP F5.out.1
                  have SL5 := hideP F5.out.2.1
                  clear F5
                  generalize W2.alloc (.cells #[.slice none 0 0] 31) = W5 at *
                  refine wpAnyH_ready (rs := [4]) (by kernel_rfl) (by simp) ?_
                  refine AllReadyH.cons rfl (fun K hK => ?_) AllReadyH.nil
                  go_simp
                  refine (K3.out _ _ T5.out R5.out).mono ?_
                  rintro e W6 ⟨hb6, x9, y9, rfl, ho6⟩
                  have T6 := hideP (T5.out.trans (hb6.mono T5.out.size))
                  have SL6 := hideP (SL5.out.keep hb6)
                  have NA6 : Hid (∀ k, rowOf (.slice x9 S.length y9) S.length = some k → ¬ k = W2.heap.size) := fun k e => by have := (rowOf_ge ho6 k e).1; have := SL5.out.2.1; omega
                  have O6 : Hid (OwF w12.heap.size W6 (.slice x9 S.length y9) S) := ho6.base T5.out.size
                  refine hK.out _ _ T6.out (fun _ => ?_)
                  clear hK hb6 ho6
                  refine wpAnyH_take (i := 5) (v := .tuple #[.agg #[.slice x9 S.length y9], .int .i64 q]) rfl (by kernel_rfl) (by kernel_rfl) (by kernel_rfl) (fun _ _ _ h => h) (Or.inl ⟨by rfl, ?_⟩) T6.out ?_
                  · intro w' hS
                    clear hS
                    go_simp
                  refine wpAnyH_take (i := 6) (v := .agg #[.slice x9 S.length y9]) rfl (by kernel_rfl) (by kernel_rfl) (by kernel_rfl) (fun _ _ _ h => h) (Or.inl ⟨by rfl, ?_⟩) T6.out ?_
                  · intro w' hS
                    clear hS
                    go_simp
                  refine wpAnyH_take (i := 7) (v := .int .i64 q) rfl (by kernel_rfl) (by kernel_rfl) (by kernel_rfl) (fun _ _ _ h => h) (Or.inl ⟨by rfl, ?_⟩) T6.out ?_
                  · intro w' hS
                    clear hS
                    go_simp
                  refine wpAnyH_ready (rs := [9]) (by kernel_rfl) (by simp) ?_
                  refine AllReadyH.cons rfl (fun K hK => ?_) AllReadyH.nil
                  have GT := hideP (got_of T6.out SL6.out O6.out NA6.out)
                  have hA1 := SL6.out.2.1
                  have cA := SL6.out.2.2.1
                  have fA := SL6.out.2.2.2
                  go_simp
                  refine hK.out _ _ GT.out.bel (fun _ => ?_)
                  clear hK
                  refine wpAnyH_ready (rs := [10]) (by kernel_rfl) (by simp) ?_
                  refine AllReadyH.cons rfl (fun K hK => ?_) AllReadyH.nil
                  go_simp
                  refine hK.out _ _ GT.out.bel (fun _ => ?_)
                  clear hK
                  refine wpAnyH_done (by kernel_rfl) ?_ _
                  clear cA fA hA1
                  go_wp2_with fail
                  go_meet
                  case rel => exact ⟨_, _, rfl, rfl, GT⟩
              · go_simp
                have F7 : Hid (Below w12.heap.size w12 (W1.alloc (.cells #[.slice none 0 0] 31)) ∧ Slot w12 W1.heap.size (W1.alloc (.cells #[.slice none 0 0] 31)) ∧ Below W1.heap.size W1 (W1.alloc (.cells #[.slice none 0 0] 31))) := ⟨(T1.out.alloc T1.out.size _), Slot.new T1.out.size 31, (Below.refl _ _).alloc (Nat.le_refl _) _⟩
                refine hK.out _ _ F7.out.1 (fun _ => ?_)
                clear hK
                have R7 := hideP ((R1.out.keep F7.out.2.2).up F7.out.2.2.size)
                have T7 := hideP F7.out.1
                have SL7 := hideP F7.out.2.1
                clear F7
                generalize W1.alloc (.cells #[.slice none 0 0] 31) = W7 at *
                refine wpAnyH_ready (rs := [3]) (by kernel_rfl) (by simp) ?_
                refine AllReadyH.cons rfl (fun K hK => ?_) AllReadyH.nil
                go_simp
                refine (K2.out _).mono ?_
                rintro e W8 ⟨rfl, hb8⟩
                have T8 := hideP (T7.out.trans (hb8.mono T7.out.size))
                have SL8 := hideP (SL7.out.keep hb8)
                have R8 := hideP ((R7.out.keep hb8).up hb8.size)
                refine hK.out _ _ T8.out (fun _ => ?_)
                clear hK hb8
                refine wpAnyH_ready (rs := [4]) (by kernel_rfl) (by simp) ?_
                refine AllReadyH.cons rfl (fun K hK => ?_) AllReadyH.nil
                go_simp
                refine (K3.out _ _ T8.out R8.out).mono ?_
                rintro e W9 ⟨hb9, x9, y9, rfl, ho9⟩
                have T9 := hideP (T8.out.trans (hb9.mono T8.out.size))
                have SL9 := hideP (SL8.out.keep hb9)
                have NA9 : Hid (∀ k, rowOf (.slice x9 S.length y9) S.length = some k → ¬ k = W1.heap.size) := fun k e => by have := (rowOf_ge ho9 k e).1; have := SL8.out.2.1; omega
                have O9 : Hid (OwF w12.heap.size W9 (.slice x9 S.length y9) S) := ho9.base T8.out.size
                refine hK.out _ _ T9.out (fun _ => ?_)
                clear hK hb9 ho9
                refine wpAnyH_take (i := 5) (v := .tuple #[.agg #[.slice x9 S.length y9], .int .i64 q]) rfl (by kernel_rfl) (by kernel_rfl) (by kernel_rfl) (fun _ _ _ h => h) (Or.inl ⟨by rfl, ?_⟩) T9.out ?_
                · intro w' hS
                  clear hS
                  go_simp
                refine wpAnyH_take (i := 6) (v := .agg #[.slice x9 S.length y9]) rfl (by kernel_rfl) (by kernel_rfl) (by kernel_rfl) (fun _ _ _ h => h) (Or.inl ⟨by rfl, ?_⟩) T9.out ?_
                · intro w' hS
                  clear hS
                  go_simp
                refine wpAnyH_take (i := 7) (v := .int .i64 q) rfl (by kernel_rfl) (by kernel_rfl) (by kernel_rfl) (fun _ _ _ h => h) (Or.inl ⟨by rfl, ?_⟩) T9.out ?_
                · intro w' hS
                  clear hS
                  go_simp
                refine wpAnyH_ready (rs := [9]) (by kernel_rfl) (by simp) ?_
                refine AllReadyH.cons rfl (fun K hK => ?_) AllReadyH.nil
                have GT := hideP (got_of T9.out SL9.out O9.out NA9.out)
                have hA1 := SL9.out.2.1
                have cA := SL9.out.2.2.1
                have fA := SL9.out.2.2.2
                go_simp
                refine hK.out _ _ GT.out.bel (fun _ => ?_)
                clear hK
                refine wpAnyH_ready (rs := [10]) (by kernel_rfl) (by simp) ?_
                refine AllReadyH.cons rfl (fun K hK => ?_) AllReadyH.nil
                go_simp
                refine hK.out _ _ GT.out.bel (fun _ => ?_)
                clear hK
                refine wpAnyH_done (by kernel_rfl) ?_ _
                clear cA fA hA1
                go_wp2_with fail
                go_meet
                case rel => exact ⟨_, _, rfl, rfl, GT⟩
            · go_simp
              have F10 : Hid (Below w12.heap.size w12 ((w12.alloc (.cells #[.slice none 0 0] 31)).drew) ∧ Slot w12 w12.heap.size ((w12.alloc (.cells #[.slice none 0 0] 31)).drew) ∧ Below w12.heap.size w12 ((w12.alloc (.cells #[.slice none 0 0] 31)).drew)) := ⟨(((Below.refl _ _).alloc (Nat.le_refl _) _).drew), Slot.drew (Slot.new (Nat.le_refl _) 31), ((Below.refl _ _).alloc (Nat.le_refl _) _).drew⟩
              refine hK.out _ _ F10.out.1 (fun _ => ?_)
              clear hK
              have T10 := hideP F10.out.1
              have SL10 := hideP F10.out.2.1
              clear F10
              generalize (w12.alloc (.cells #[.slice none 0 0] 31)).drew = W10 at *
              refine wpAnyH_ready (rs := [1]) (by kernel_rfl) (by simp) ?_
              refine AllReadyH.cons rfl (fun K hK => ?_) AllReadyH.nil
              go_simp
              refine (K1.out _ T10.out).mono ?_
              rintro e W11 ⟨g11, rfl, ho11, hb11⟩
              have T11 := hideP (T10.out.trans (hb11.mono T10.out.size))
              have SL11 := hideP (SL10.out.keep hb11)
              have R11 := hideP ho11.rd
              refine hK.out _ _ T11.out (fun _ => ?_)
              clear hK hb11 ho11
              refine wpAnyH_ready (rs := [3]) (by kernel_rfl) (by simp) ?_
              refine AllReadyH.cons rfl (fun K hK => ?_) AllReadyH.nil
              go_simp
              refine (K2.out _).mono ?_
              rintro e W12 ⟨rfl, hb12⟩
              have T12 := hideP (T11.out.trans (hb12.mono T11.out.size))
              have SL12 := hideP (SL11.out.keep hb12)
              have R12 := hideP ((R11.out.keep hb12).up hb12.size)
              refine hK.out _ _ T12.out (fun _ => ?_)
              clear hK hb12
              refine wpAnyH_ready (rs := [4]) (by kernel_rfl) (by simp) ?_
              refine AllReadyH.cons rfl (fun K hK => ?_) AllReadyH.nil
              go_simp
              refine (K3.out _ _ T12.out R12.out).mono ?_
              rintro e W13 ⟨hb13, x9, y9, rfl, ho13⟩
              have T13 := hideP (T12.out.trans (hb13.mono T12.out.size))
              have SL13 := hideP (SL12.out.keep hb13)
              have NA13 : Hid (∀ k, rowOf (.slice x9 S.length y9) S.length = some k → ¬ k = w12.heap.size) := fun k e => by have := (rowOf_ge ho13 k e).1; have := SL12.out.2.1; omega
              have O13 : Hid (OwF w12.heap.size W13 (.slice x9 S.length y9) S) := ho13.base T12.out.size
              refine hK.out _ _ T13.out (fun _ => ?_)
              clear hK hb13 ho13
              refine wpAnyH_take (i := 5) (v := .tuple #[.agg #[.slice x9 S.length y9], .int .i64 q]) rfl (by kernel_rfl) (by kernel_rfl) (by kernel_rfl) (fun _ _ _ h => h) (Or.inl ⟨by rfl, ?_⟩) T13.out ?_
              · intro w' hS
                clear hS
                go_simp
              refine wpAnyH_take (i := 6) (v := .agg #[.slice x9 S.length y9]) rfl (by kernel_rfl) (by kernel_rfl) (by kernel_rfl) (fun _ _ _ h => h) (Or.inl ⟨by rfl, ?_⟩) T13.out ?_
              · intro w' hS
                clear hS
                go_simp
              refine wpAnyH_take (i := 7) (v := .int .i64 q) rfl (by kernel_rfl) (by kernel_rfl) (by kernel_rfl) (fun _ _ _ h => h) (Or.inl ⟨by rfl, ?_⟩) T13.out ?_
              · intro w' hS
                clear hS
                go_simp
              refine wpAnyH_ready (rs := [9]) (by kernel_rfl) (by simp) ?_
              refine AllReadyH.cons rfl (fun K hK => ?_) AllReadyH.nil
              have GT := hideP (got_of T13.out SL13.out O13.out NA13.out)
              have hA1 := SL13.out.2.1
              have cA := SL13.out.2.2.1
              have fA := SL13.out.2.2.2
              go_simp
              refine hK.out _ _ GT.out.bel (fun _ => ?_)
              clear hK
              refine wpAnyH_ready (rs := [10]) (by kernel_rfl) (by simp) ?_
              refine AllReadyH.cons rfl (fun K hK => ?_) AllReadyH.nil
              go_simp
              refine hK.out _ _ GT.out.bel (fun _ => ?_)
              clear hK
              refine wpAnyH_done (by kernel_rfl) ?_ _
              clear cA fA hA1
              go_wp2_with fail
              go_meet
              case rel => exact ⟨_, _, rfl, rfl, GT⟩
          case rest =>
            rename World => wq
            obtain ⟨HA, t, rfl, rfl, G14⟩ := hcut
            have E15 := hideP (E13.out.keep G14.out.bel)
            have R14 := hideP G14.out.res.rd
            obtain ⟨_, ch⟩ := G14.out.box
            obtain ⟨s0, i0, e0⟩ := G14.out.res.form
            subst e0
            clear G14 K1 K3 PL PA T0 E13
            obtain ⟨_, cw⟩ := E15.out.boxW
            go_wp2_with fail
            refine (eqDisk_same _ _ S _ lS R14.out (E15.out.rd.up E15.out.hM)).mono ?_
            rintro e w15 ⟨rfl, hb15⟩
            have E16 := hideP (E15.out.keep hb15)
            clear hb15 E15 R14 cw ch
            go_wp2_with fail
            go_ret
            exact ⟨rfl, E16.out.bel⟩

end Go.Proofs.YtfangdhbadmolaaGreatDoor
