import Derived.Test.YtfangdhbadmolaaGreatDoorRf
namespace Go.Proofs.YtfangdhbadmolaaGreatDoor
open Go.RowKit Go.Maps Go.MuLone
set_option linter.unusedVariables false

theorem leaves_res {P : Program} {fn : Func} {R : Ending → World → Prop} {t t' : Array Value} (h : results fn t = results fn t') : ∀ (ds : List Deferred) (u : FrameMode) (w : World), Leaves P fn t R ds u w → Leaves P fn t' R ds u w
  | [], .returning, w, ⟨v, e, r⟩ => ⟨v, by rw [← h]; exact e, r⟩
  | [], .panicking c, w, hl => hl
  | [], .run, _, hl => hl.elim
  | d :: ds, u, w, ⟨hu, fv, cap, f, args, ht, hi, hc⟩ => ⟨hu, fv, cap, f, args, ht, hi, hc.mono (by
      intro e u' w' he
      cases e with
      | returned v => exact leaves_res h ds _ _ he
      | panicked c => exact leaves_res h ds _ _ he
      | outgrown => exact he)⟩
theorem leaves_put {P : Program} {fn : Func} {R : Ending → World → Prop} (a a' : Act) (h : results fn a.tmps = results fn a'.tmps ∧ a.defers = a'.defers) (ds : FrameMode) (w : World) (_u : Unit := ()) (hl : Leaves P fn a.tmps R a.defers ds w) : Leaves P fn a'.tmps R a'.defers ds w := by
  rw [← h.2]
  exact leaves_res h.1 _ _ _ hl

theorem res24 (a : Act) (dst : Option Tmp) (v : Value) (h : ¬ dst = some 4) : results Tryz.f19 (a.put dst v).tmps = results Tryz.f19 a.tmps ∧ (a.put dst v).defers = a.defers := by
  cases dst with
  | none => exact ⟨rfl, rfl⟩
  | some d =>
    have hd : ¬ d = 4 := fun e => h (by rw [e])
    refine ⟨?_, rfl⟩
    show results Tryz.f19 (a.tmps.setIfInBounds d v) = _
    unfold results
    have e : (a.tmps.setIfInBounds d v).getD 4 undef = a.tmps.getD 4 undef := by
      simp only [Array.getD_eq_getD_getElem?, Array.getElem?_setIfInBounds, if_neg hd]
    simp only [Array.getD_eq_getD_getElem?] at e
    simp only [Tryz.results19]
    simp [e]

/-- what holds at a panic does not hang on a slot that is no result's -/
def Pd (Q : Exit → Act → World → Prop) : Prop := ∀ c a w dst v, ¬ dst = some 4 → Q (.panic c) (a.put dst v) w → Q (.panic c) a w
theorem Pd.body (R : Ending → World → Prop) : Pd (bodyPostD Tryz.prog Tryz.f19 R) := fun c a w dst v hd h => leaves_put (fn := Tryz.f19) (a.put dst v) a (res24 a dst v hd) (.panicking c) w (hl := h)
theorem Pd.thenK {Q : Exit → Act → World → Prop} {K : Act → World → Prop} (h : Pd Q) : Pd (Exit.then K Q) := fun c a w dst v hd hq => h c a w dst v hd hq
theorem Pd.block {Q : Exit → Act → World → Prop} {n : Nat} (h : Pd Q) : Pd (Exit.inBlock n Q) := fun c a w dst v hd hq => h c a w dst v hd hq
theorem Pd.use {Q : Exit → Act → World → Prop} (h : Pd Q) {dst : Option Tmp} {v : Value} (hd : ¬ dst = some 4) : ∀ c a w, Q (.panic c) (a.put dst v) w → Q (.panic c) a w := fun c a w hq => h c a w dst v hd hq

/-- all blocks but two are as they were -/
structure Kp (L b : Nat) (w w' : World) : Prop where
  os : w'.os = w.os
  tape : w'.tape = w.tape
  output : w'.output = w.output
  size : w.heap.size ≤ w'.heap.size
  block : ∀ k, k < w.heap.size → ¬ k = L → ¬ k = b → w'.heap[k]? = w.heap[k]?

theorem Kp.refl (L b : Nat) (w : World) : Kp L b w w := ⟨rfl, rfl, rfl, Nat.le_refl _, fun _ _ _ _ => rfl⟩
theorem Kp.keep {L b : Nat} {w w' w'' : World} (h : Kp L b w w') (hb : Below w'.heap.size w' w'') : Kp L b w w'' :=
  ⟨hb.os.trans h.os, hb.tape.trans h.tape, hb.output.trans h.output, Nat.le_trans h.size hb.size, fun k hk h1 h2 => (hb.block k (Nat.lt_of_lt_of_le hk h.size)).trans (h.block k hk h1 h2)⟩
theorem Kp.trans {L b : Nat} {w w' w'' : World} (h : Kp L b w w') (h2 : Kp L b w' w'') : Kp L b w w'' :=
  ⟨h2.os.trans h.os, h2.tape.trans h.tape, h2.output.trans h.output, Nat.le_trans h.size h2.size, fun k hk e1 e2 => (h2.block k (Nat.lt_of_lt_of_le hk h.size) e1 e2).trans (h.block k hk e1 e2)⟩
theorem Kp.setL {L b : Nat} {w w' : World} {o : Nat} {v : Value} (h : Kp L b w w') : Kp L b w (w'.setCell ⟨L, o, none⟩ v) :=
  ⟨h.os, h.tape, h.output, by simpa using h.size, fun k hk e1 e2 => by rw [Below.heap_setCell _ _ _ _ e1]; exact h.block k hk e1 e2⟩
theorem Kp.turn {L b : Nat} {w w' w'' : World} (h : Kp L b w w') (ht : w'.mapTurned w'' b) : Kp L b w w'' := by
  have hg := ht.grown
  exact ⟨hg.os.trans h.os, hg.tape.trans h.tape, hg.output.trans h.output, Nat.le_trans h.size hg.size, fun k hk e1 e2 => (hg.block k (Nat.lt_of_lt_of_le hk h.size) (fun e => e2 (by injection e))).trans (h.block k hk e1 e2)⟩
theorem Kp.below {L b B : Nat} {w w' : World} (h : Kp L b w w') (hB : B ≤ w.heap.size) (hL : B ≤ L) (hb : B ≤ b) : Below B w w' :=
  ⟨h.os, h.tape, h.output, h.size, fun k hk => h.block k (by omega) (by omega) (by omega)⟩

/-- what do reads in between -/
structure Sd (L b N P : Nat) (nm to da dt : ByteArray) (w : World) : Prop where
  p : w.cell? ⟨L, 2, none⟩ = some (.map (some b))
  n : w.cell? ⟨N, 1, none⟩ = some (.string nm)
  t : w.cell? ⟨N, 2, none⟩ = some (.string to)
  d : w.cell? ⟨N, 3, none⟩ = some (.string da)
  o : w.cell? ⟨P, 0, none⟩ = some (.string dt)

/-- do under way: the act's variable at N, the old content's at P -/
structure Md (w : World) (L b P : Nat) (kd : Int) (nm to da dt : ByteArray) (fs : List Pl.Fl) (W : World) : Prop where
  lv : Lv L b 1 fs W
  kept : Kp L b w W
  sd : Sd L b w.heap.size P nm to da dt W
  k : W.cell? ⟨w.heap.size, 0, none⟩ = some (.int .i64 kd)
  srt : Pl.Srt fs
  len : fs.length ≤ 401
  nN : ¬ w.heap.size = b
  nP : ¬ P = b

theorem Md.turn {w W W' : World} {L b P : Nat} {kd : Int} {nm to da dt : ByteArray} {fs fs' : List Pl.Fl} (h : Md w L b P kd nm to da dt fs W) (ho : Lm W' b fs') (ht : W.mapTurned W' b) (hs : Pl.Srt fs') (hl : fs'.length ≤ 401) : Md w L b P kd nm to da dt fs' W' := by
  have hg := ht.grown
  have cl : ∀ {k o : Nat} {v : Value}, ¬ k = b → W.cell? ⟨k, o, none⟩ = some v → W'.cell? ⟨k, o, none⟩ = some v := fun {k o v} hk hc => by
    have hlt := World.block_lt_of_cell? _ _ hc
    exact (World.cell?_of_block (w := W) (a := ⟨k, o, none⟩) (hg.block k hlt (fun e => hk (by injection e)))).trans hc
  exact ⟨h.lv.turned ho ht, h.kept.turn ht, ⟨cl h.lv.ne h.sd.p, cl h.nN h.sd.n, cl h.nN h.sd.t, cl h.nN h.sd.d, cl h.nP h.sd.o⟩, cl h.nN h.k, hs, hl, h.nN, h.nP⟩

theorem Md.keep {w W W' : World} {L b P : Nat} {kd : Int} {nm to da dt : ByteArray} {fs : List Pl.Fl} (h : Md w L b P kd nm to da dt fs W) (hb : Below W.heap.size W W') : Md w L b P kd nm to da dt fs W' := by
  have cl : ∀ {k o : Nat} {v : Value}, W.cell? ⟨k, o, none⟩ = some v → W'.cell? ⟨k, o, none⟩ = some v := fun {k o v} hc => (hb.cell (p := ⟨k, o, none⟩) (World.block_lt_of_cell? _ _ hc)).trans hc
  exact ⟨h.lv.keep hb, h.kept.keep hb, ⟨cl h.sd.p, cl h.sd.n, cl h.sd.t, cl h.sd.d, cl h.sd.o⟩, cl h.k, h.srt, h.len, h.nN, h.nP⟩

namespace Pl
theorem ref_zero {fs : List Fl} {a : Ac} (hr : refB fs a = 0) : ¬ 100000 < (dataF fs a.name).size + a.data.size := by
  intro e
  have h1 : ¬ actB a = false := fun e => by simp [refB, e] at hr
  have h2 : ¬ (hasF fs a.name = false ∧ ¬ a.kind = 1) := fun e => by simp [refB, h1, e] at hr
  have h3 : ¬ (hasF fs a.name = false ∧ fs.length = 400) := fun e => by
    have : refB fs a = 4 := by simp only [refB, if_neg h1, if_neg h2, if_pos e]
    rw [this] at hr; cases hr
  have : refB fs a = 4 := by simp only [refB, if_neg h1, if_neg h2, if_neg h3, if_pos e]
  rw [this] at hr; cases hr
end Pl

set_option maxRecDepth 100000 in
set_option maxHeartbeats 8000000 in
/-- (*liveDisk).do -/
theorem do_any (L b : Nat) (fs : List Pl.Fl) (kd : Int) (nm to da : ByteArray) (w : World) (hv : Pl.Vd fs) (hn : nm.size ≤ 1048576) (ht : to.size ≤ 1048576) (hd : da.size ≤ 1048576) (h : Lv L b 0 fs w) :
    Calls Tryz.prog 19 #[.pointer (some ⟨L, 0, none⟩), .agg #[.int .i64 kd, .string nm, .string to, .string da]] w fun e w' => e = .returned (errV (Pl.refB fs ⟨kd, nm, to, da⟩)) ∧ Kp L b w w' ∧ Lv L b 0 (Pl.doM fs ⟨kd, nm, to, da⟩) w' := by
  have hL := h.lt
  have hb := h.own.lt
  have hne := h.ne
  have HV := hideP hv
  have W1 := hideP (show Lv L b 0 fs (w.alloc (.cells #[.int .i64 kd, .string nm, .string to, .string da] 35)) from h.keep ((Below.refl _ _).alloc (Nat.le_refl _) _))
  have m1 := W1.out.m
  have f1 := W1.out.mf
  have W2 := hideP (show Lv L b 1 fs ((w.setCell ⟨L, 0, none⟩ (.int .i32 1)).alloc (.cells #[.int .i64 kd, .string nm, .string to, .string da] 35)) from (h.lock (q' := 1)).keep ((Below.refl _ _).alloc (Nat.le_refl _) _))
  have KP : Hid (Kp L b w ((w.setCell ⟨L, 0, none⟩ (.int .i32 1)).alloc (.cells #[.int .i64 kd, .string nm, .string to, .string da] 35))) := ((Kp.refl L b w).setL (o := 0) (v := .int .i32 1)).keep ((Below.refl _ _).alloc (Nat.le_refl _) _)
  have C : Hid (((w.setCell ⟨L, 0, none⟩ (.int .i32 1)).alloc (.cells #[.int .i64 kd, .string nm, .string to, .string da] 35)).cell? ⟨w.heap.size, 0, none⟩ = some (.int .i64 kd) ∧ ((w.setCell ⟨L, 0, none⟩ (.int .i32 1)).alloc (.cells #[.int .i64 kd, .string nm, .string to, .string da] 35)).cell? ⟨w.heap.size, 1, none⟩ = some (.string nm) ∧ ((w.setCell ⟨L, 0, none⟩ (.int .i32 1)).alloc (.cells #[.int .i64 kd, .string nm, .string to, .string da] 35)).cell? ⟨w.heap.size, 2, none⟩ = some (.string to) ∧ ((w.setCell ⟨L, 0, none⟩ (.int .i32 1)).alloc (.cells #[.int .i64 kd, .string nm, .string to, .string da] 35)).cell? ⟨w.heap.size, 3, none⟩ = some (.string da) ∧ ((w.setCell ⟨L, 0, none⟩ (.int .i32 1)).alloc (.cells #[.int .i64 kd, .string nm, .string to, .string da] 35)).heap.size = w.heap.size + 1) := by
    have e : w.heap.size = (w.setCell ⟨L, 0, none⟩ (.int .i32 1)).heap.size := by simp
    refine ⟨?_, ?_, ?_, ?_, by simp⟩ <;> (rw [e]; generalize w.setCell ⟨L, 0, none⟩ (.int .i32 1) = wx; simp [go_sem])
  clear hv h
  go_enter_defers Tryz.func19, Tryz.ntmps19
  go_wp2_with (go_at_call 34; refine (lock_free muLib ⟨L, 0, none⟩ _ m1 f1).mono ?_; rintro e w' ⟨rfl, rfl⟩)
  clear W1 m1 f1
  generalize ((w.setCell ⟨L, 0, none⟩ (.int .i32 1)).alloc (.cells #[.int .i64 kd, .string nm, .string to, .string da] 35)) = W0 at W2 KP C ⊢
  refine (refused_any L b 1 fs kd nm to da _ HV.out hn ht hd W2.out).mono ?_
  rintro e w1 ⟨rfl, hb1⟩
  have LV1 := hideP (W2.out.keep hb1)
  have KP1 := hideP (KP.out.keep hb1)
  have s1 := hb1.size
  have C1 : Hid (w1.cell? ⟨w.heap.size, 0, none⟩ = some (.int .i64 kd) ∧ w1.cell? ⟨w.heap.size, 1, none⟩ = some (.string nm) ∧ w1.cell? ⟨w.heap.size, 2, none⟩ = some (.string to) ∧ w1.cell? ⟨w.heap.size, 3, none⟩ = some (.string da)) := by
    have e := C.out.2.2.2.2
    exact ⟨(hb1.cell (p := ⟨w.heap.size, 0, none⟩) (by show w.heap.size < _; omega)).trans C.out.1, (hb1.cell (p := ⟨w.heap.size, 1, none⟩) (by show w.heap.size < _; omega)).trans C.out.2.1, (hb1.cell (p := ⟨w.heap.size, 2, none⟩) (by show w.heap.size < _; omega)).trans C.out.2.2.1, (hb1.cell (p := ⟨w.heap.size, 3, none⟩) (by show w.heap.size < _; omega)).trans C.out.2.2.2.1⟩
  have hsz : w.heap.size < w1.heap.size := by have := C.out.2.2.2.2; omega
  clear hb1 C KP W2
  by_cases hrf : Pl.refB fs ⟨kd, nm, to, da⟩ = 0
  · have RF := hideP hrf
    rw [hrf]
    have hA : Pl.actB ⟨kd, nm, to, da⟩ = true := by
      cases e : Pl.actB ⟨kd, nm, to, da⟩
      · rw [Pl.ref_act e] at hrf; cases hrf
      · rfl
    have HK : Hid (kd = 1 ∨ kd = 2 ∨ kd = 3 ∨ kd = 4) := Pl.act_kinds hA
    have VE := hideP (Pl.eff_vd HV.out hrf)
    have BG := hideP (Pl.ref_zero hrf)
    clear hrf hA
    have errE : errV 0 = .nilIface := rfl
    rw [errE]
    clear errE
    have hnm : nm.size ≤ maxLen := by unfold maxLen; omega
    obtain ⟨dt, hdt⟩ : ∃ dt, Pl.dataF fs nm = dt := ⟨_, rfl⟩
    have HDT := hideP hdt
    clear hdt
    have D := hideP (show Below w1.heap.size w1 w1.drew from (Below.refl _ _).drew)
    have LS : Hid (∀ w', Below w1.heap.size w1 w' → Lv L b 1 fs w') := fun w' hb => LV1.out.keep hb
    have CS : Hid (∀ w', Below w1.heap.size w1 w' → w'.cell? ⟨w.heap.size, 1, none⟩ = some (.string nm)) := fun w' hb => (hb.cell (p := ⟨w.heap.size, 1, none⟩) hsz).trans C1.out.2.1
    have LK : Hid (∀ w', Below w1.heap.size w1 w' → (Instr.lookup 66 (.map (some b)) (.string nm) false).run Tryz.prog w' = .ok (.agg #[.string dt]) w') := fun w' hb => by
      have := (LS.out w' hb).own.look hnm
      rw [HDT.out] at this; exact this
    go_wp2_with fail
    refine wp_region_held (S := fun w' => Below w1.heap.size w1 w') (by kernel_rfl) ?_
    change wpAnyH _ _ _ _ _ _ _ _ (World.drew _)
    refine wpAnyH_take (i := 0) (v := .pointer (some ⟨L, 0, none⟩)) rfl (by kernel_rfl) (by kernel_rfl) (by kernel_rfl) (Pd.use (by repeat (first | exact Pd.body _ | apply Pd.thenK | apply Pd.block)) (by decide)) (Or.inl ⟨by rfl, ?_⟩) D.out ?_
    · intro w' hS
      clear hS
      go_simp
    refine wpAnyH_take (i := 1) (v := .pointer (some ⟨L, 0, none⟩)) rfl (by kernel_rfl) (by kernel_rfl) (by kernel_rfl) (Pd.use (by repeat (first | exact Pd.body _ | apply Pd.thenK | apply Pd.block)) (by decide)) (Or.inl ⟨by rfl, ?_⟩) D.out ?_
    · intro w' hS
      clear hS
      go_simp
    refine wpAnyH_take (i := 2) (v := .pointer (some ⟨L, 2, none⟩)) rfl (by kernel_rfl) (by kernel_rfl) (by kernel_rfl) (Pd.use (by repeat (first | exact Pd.body _ | apply Pd.thenK | apply Pd.block)) (by decide)) (Or.inl ⟨by rfl, ?_⟩) D.out ?_
    · intro w' hS
      clear hS
      go_simp
    refine wpAnyH_take (i := 3) (v := .map (some b)) rfl (by kernel_rfl) (by kernel_rfl) (by kernel_rfl) (Pd.use (by repeat (first | exact Pd.body _ | apply Pd.thenK | apply Pd.block)) (by decide)) (Or.inl ⟨by rfl, ?_⟩) D.out ?_
    · intro w' hS
      have := (LS.out w' hS).p
      clear hS
      go_simp
    refine wpAnyH_take (i := 4) (v := .pointer (some ⟨w.heap.size, 1, none⟩)) rfl (by kernel_rfl) (by kernel_rfl) (by kernel_rfl) (Pd.use (by repeat (first | exact Pd.body _ | apply Pd.thenK | apply Pd.block)) (by decide)) (Or.inl ⟨by rfl, ?_⟩) D.out ?_
    · intro w' hS
      clear hS
      go_simp
    refine wpAnyH_take (i := 5) (v := .string nm) rfl (by kernel_rfl) (by kernel_rfl) (by kernel_rfl) (Pd.use (by repeat (first | exact Pd.body _ | apply Pd.thenK | apply Pd.block)) (by decide)) (Or.inl ⟨by rfl, ?_⟩) D.out ?_
    · intro w' hS
      have := CS.out w' hS
      clear hS
      go_simp
    refine wpAnyH_take (i := 6) (v := .agg #[.string dt]) rfl (by kernel_rfl) (by kernel_rfl) (by kernel_rfl) (Pd.use (by repeat (first | exact Pd.body _ | apply Pd.thenK | apply Pd.block)) (by decide)) (Or.inl ⟨by rfl, ?_⟩) D.out ?_
    · intro w' hS
      have := LK.out w' hS
      clear hS
      go_simp
    refine wpAnyH_ready (rs := [7]) (by kernel_rfl) (by simp) ?_
    refine AllReadyH.cons rfl (fun K hK => ?_) AllReadyH.nil
    have DA : Hid (∀ o, Below w1.heap.size w1 (w1.alloc o).drew) := fun o => ((Below.refl _ _).alloc (Nat.le_refl _) _).drew
    go_simp
    refine hK.out _ _ (DA.out _) (fun _ => ?_)
    clear hK
    refine wpAnyH_ready (rs := [8]) (by kernel_rfl) (by simp) ?_
    refine AllReadyH.cons rfl (fun K hK => ?_) AllReadyH.nil
    go_simp
    refine hK.out _ _ (DA.out _) (fun _ => ?_)
    clear hK
    refine wpAnyH_done (by kernel_rfl) ?_ _
    clear LK CS LS D
    obtain ⟨P, hP⟩ : ∃ P, w1.heap.size = P := ⟨_, rfl⟩
    have MD : Hid (Md w L b w1.heap.size kd nm to da dt fs (w1.alloc (.cells #[.string dt] 68)).drew) := by
      have hb := DA.out (.cells #[.string dt] 68)
      have cl : ∀ {o : Nat} {v : Value}, w1.cell? ⟨w.heap.size, o, none⟩ = some v → (w1.alloc (.cells #[.string dt] 68)).drew.cell? ⟨w.heap.size, o, none⟩ = some v := fun {o v} hc => (hb.cell (p := ⟨w.heap.size, o, none⟩) hsz).trans hc
      have lv := LV1.out.keep hb
      have := HV.out.len
      exact ⟨lv, KP1.out.keep hb, ⟨lv.p, cl C1.out.2.1, cl C1.out.2.2.1, cl C1.out.2.2.2, by simp [go_sem]⟩, cl C1.out.1, HV.out.srt, by omega, by omega, by omega⟩
    rw [hP] at MD ⊢
    have hPb : ¬ P = b := MD.out.nP
    clear DA LV1 KP1 C1 hsz s1 hP
    generalize (w1.alloc (.cells #[.string dt] 68)).drew = W at MD ⊢
    have ck := MD.out.k
    have hk := HK.out
    have hle : fs.length ≤ 1048576 := by have := MD.out.len; omega
    have hMnm : nm.size ≤ maxLen := hnm
    have hMto : to.size ≤ maxLen := by unfold maxLen; omega
    rcases hk with rfl | rfl | rfl | rfl
    · have EF := hideP (Pl.eff_make fs nm to da)
      rw [EF.out] at VE
      have hsn : Pl.Srt (Pl.withF fs (nm, ByteArray.mk #[])) := VE.out.srt
      have hln : (Pl.withF fs (nm, ByteArray.mk #[])).length ≤ 401 := by have h := VE.out.len; exact Nat.le_succ_of_le h
      go_wp2_with fail
      clear ck
      have MD := hideP (MD.out.keep (Below.refl _ _).drew)
      refine wp_region_held (S := fun w' => Sd L b w.heap.size P nm to da dt w') (by kernel_rfl) ?_
      change wpAnyH _ _ _ _ _ _ _ _ (World.drew _)
      generalize World.drew W = WD at MD ⊢
      have SD := hideP MD.out.sd
      have ST := hideP (Lm.store (nm := nm) (d := ByteArray.mk #[]) MD.out.lv.own MD.out.srt hle hMnm)
      obtain ⟨w9, hst9⟩ := ST.out
      have HST := hideP hst9.1
      have M9 := hideP (MD.out.turn hst9.2.1 hst9.2.2 hsn hln)
      have S9 := hideP M9.out.sd
      clear ST hst9
      refine wpAnyH_take (i := 0) (v := .pointer (some ⟨L, 0, none⟩)) rfl (by kernel_rfl) (by kernel_rfl) (by kernel_rfl) (Pd.use (by repeat (first | exact Pd.body _ | apply Pd.thenK | apply Pd.block)) (by decide)) (Or.inl ⟨by rfl, ?_⟩) SD.out ?_
      · intro w' hS
        clear hS
        go_simp
      refine wpAnyH_take (i := 1) (v := .pointer (some ⟨L, 0, none⟩)) rfl (by kernel_rfl) (by kernel_rfl) (by kernel_rfl) (Pd.use (by repeat (first | exact Pd.body _ | apply Pd.thenK | apply Pd.block)) (by decide)) (Or.inl ⟨by rfl, ?_⟩) SD.out ?_
      · intro w' hS
        clear hS
        go_simp
      refine wpAnyH_take (i := 2) (v := .pointer (some ⟨L, 2, none⟩)) rfl (by kernel_rfl) (by kernel_rfl) (by kernel_rfl) (Pd.use (by repeat (first | exact Pd.body _ | apply Pd.thenK | apply Pd.block)) (by decide)) (Or.inl ⟨by rfl, ?_⟩) SD.out ?_
      · intro w' hS
        clear hS
        go_simp
      refine wpAnyH_take (i := 3) (v := .map (some b)) rfl (by kernel_rfl) (by kernel_rfl) (by kernel_rfl) (Pd.use (by repeat (first | exact Pd.body _ | apply Pd.thenK | apply Pd.block)) (by decide)) (Or.inl ⟨by rfl, ?_⟩) SD.out ?_
      · intro w' hS
        have := hS.p
        clear hS
        go_simp
      refine wpAnyH_take (i := 4) (v := .pointer (some ⟨w.heap.size, 1, none⟩)) rfl (by kernel_rfl) (by kernel_rfl) (by kernel_rfl) (Pd.use (by repeat (first | exact Pd.body _ | apply Pd.thenK | apply Pd.block)) (by decide)) (Or.inl ⟨by rfl, ?_⟩) SD.out ?_
      · intro w' hS
        clear hS
        go_simp
      refine wpAnyH_take (i := 5) (v := .string nm) rfl (by kernel_rfl) (by kernel_rfl) (by kernel_rfl) (Pd.use (by repeat (first | exact Pd.body _ | apply Pd.thenK | apply Pd.block)) (by decide)) (Or.inl ⟨by rfl, ?_⟩) SD.out ?_
      · intro w' hS
        have := hS.n
        clear hS
        go_simp
      refine wpAnyH_take (i := 6) (v := .agg #[.string (ByteArray.mk #[])]) rfl (by kernel_rfl) (by kernel_rfl) (by kernel_rfl) (Pd.use (by repeat (first | exact Pd.body _ | apply Pd.thenK | apply Pd.block)) (by decide)) (Or.inl ⟨by rfl, ?_⟩) SD.out ?_
      · intro w' hS
        clear hS
        go_simp
      refine wpAnyH_ready (rs := [7]) (by kernel_rfl) (by simp) ?_
      refine AllReadyH.cons rfl (fun K hK => ?_) AllReadyH.nil
      have hst := HST.out
      go_simp
      refine hK.out _ _ S9.out (fun _ => ?_)
      clear hK
      refine wpAnyH_done (by kernel_rfl) ?_ _
      clear hst SD
      have LV9 := hideP M9.out.lv
      have m9 := M9.out.lv.m
      have f9 := M9.out.lv.mf
      go_wp2_with fail
      refine leaves_cons (f := 35) (args := #[.pointer (some ⟨L, 0, none⟩)]) (by simp) (by simp [go_sem]) ?_
      refine (unlock_deferred muLib ⟨L, 0, none⟩ .returning _ m9 f9).mono ?_
      rintro e u' w'' ⟨rfl, rfl, rfl⟩
      refine ⟨_, results_tmp rfl _ _ _, ?_, ?_, ?_⟩
      · rw [RF.out]; rfl
      · exact M9.out.kept.setL
      · unfold Pl.doM
        rw [if_pos RF.out, EF.out]
        exact LV9.out.lock
    · have EF := hideP (Pl.eff_add fs nm to da)
      rw [EF.out, HDT.out] at VE
      have hsn := VE.out.srt
      have hln : (Pl.withF fs (nm, dt ++ da)).length ≤ 401 := by have := VE.out.len; omega
      have hcat : ¬ (9223372036854775807 < dt.size + da.size) := by have h : ¬ 100000 < (Pl.dataF fs nm).size + da.size := BG.out; rw [HDT.out] at h; omega
      go_wp2_with fail
      clear ck
      have MD := hideP (MD.out.keep (Below.refl _ _).drew)
      refine wp_region_held (S := fun w' => Sd L b w.heap.size P nm to da dt w') (by kernel_rfl) ?_
      change wpAnyH _ _ _ _ _ _ _ _ (World.drew _)
      generalize World.drew W = WD at MD ⊢
      have SD := hideP MD.out.sd
      have ST := hideP (Lm.store (nm := nm) (d := dt ++ da) MD.out.lv.own MD.out.srt hle hMnm)
      obtain ⟨w9, hst9⟩ := ST.out
      have HST := hideP hst9.1
      have M9 := hideP (MD.out.turn hst9.2.1 hst9.2.2 hsn hln)
      have S9 := hideP M9.out.sd
      clear ST hst9
      refine wpAnyH_take (i := 0) (v := .pointer (some ⟨L, 0, none⟩)) rfl (by kernel_rfl) (by kernel_rfl) (by kernel_rfl) (Pd.use (by repeat (first | exact Pd.body _ | apply Pd.thenK | apply Pd.block)) (by decide)) (Or.inl ⟨by rfl, ?_⟩) SD.out ?_
      · intro w' hS
        clear hS
        go_simp
      refine wpAnyH_take (i := 1) (v := .pointer (some ⟨L, 0, none⟩)) rfl (by kernel_rfl) (by kernel_rfl) (by kernel_rfl) (Pd.use (by repeat (first | exact Pd.body _ | apply Pd.thenK | apply Pd.block)) (by decide)) (Or.inl ⟨by rfl, ?_⟩) SD.out ?_
      · intro w' hS
        clear hS
        go_simp
      refine wpAnyH_take (i := 2) (v := .pointer (some ⟨L, 2, none⟩)) rfl (by kernel_rfl) (by kernel_rfl) (by kernel_rfl) (Pd.use (by repeat (first | exact Pd.body _ | apply Pd.thenK | apply Pd.block)) (by decide)) (Or.inl ⟨by rfl, ?_⟩) SD.out ?_
      · intro w' hS
        clear hS
        go_simp
      refine wpAnyH_take (i := 3) (v := .map (some b)) rfl (by kernel_rfl) (by kernel_rfl) (by kernel_rfl) (Pd.use (by repeat (first | exact Pd.body _ | apply Pd.thenK | apply Pd.block)) (by decide)) (Or.inl ⟨by rfl, ?_⟩) SD.out ?_
      · intro w' hS
        have := hS.p
        clear hS
        go_simp
      refine wpAnyH_take (i := 4) (v := .pointer (some ⟨w.heap.size, 1, none⟩)) rfl (by kernel_rfl) (by kernel_rfl) (by kernel_rfl) (Pd.use (by repeat (first | exact Pd.body _ | apply Pd.thenK | apply Pd.block)) (by decide)) (Or.inl ⟨by rfl, ?_⟩) SD.out ?_
      · intro w' hS
        clear hS
        go_simp
      refine wpAnyH_take (i := 5) (v := .string nm) rfl (by kernel_rfl) (by kernel_rfl) (by kernel_rfl) (Pd.use (by repeat (first | exact Pd.body _ | apply Pd.thenK | apply Pd.block)) (by decide)) (Or.inl ⟨by rfl, ?_⟩) SD.out ?_
      · intro w' hS
        have := hS.n
        clear hS
        go_simp
      refine wpAnyH_take (i := 6) (v := .pointer (some ⟨P, 0, none⟩)) rfl (by kernel_rfl) (by kernel_rfl) (by kernel_rfl) (Pd.use (by repeat (first | exact Pd.body _ | apply Pd.thenK | apply Pd.block)) (by decide)) (Or.inl ⟨by rfl, ?_⟩) SD.out ?_
      · intro w' hS
        clear hS
        go_simp
      refine wpAnyH_take (i := 7) (v := .string dt) rfl (by kernel_rfl) (by kernel_rfl) (by kernel_rfl) (Pd.use (by repeat (first | exact Pd.body _ | apply Pd.thenK | apply Pd.block)) (by decide)) (Or.inl ⟨by rfl, ?_⟩) SD.out ?_
      · intro w' hS
        have := hS.o
        clear hS
        go_simp
      refine wpAnyH_take (i := 8) (v := .pointer (some ⟨w.heap.size, 3, none⟩)) rfl (by kernel_rfl) (by kernel_rfl) (by kernel_rfl) (Pd.use (by repeat (first | exact Pd.body _ | apply Pd.thenK | apply Pd.block)) (by decide)) (Or.inl ⟨by rfl, ?_⟩) SD.out ?_
      · intro w' hS
        clear hS
        go_simp
      refine wpAnyH_take (i := 9) (v := .string da) rfl (by kernel_rfl) (by kernel_rfl) (by kernel_rfl) (Pd.use (by repeat (first | exact Pd.body _ | apply Pd.thenK | apply Pd.block)) (by decide)) (Or.inl ⟨by rfl, ?_⟩) SD.out ?_
      · intro w' hS
        have := hS.d
        clear hS
        go_simp
      refine wpAnyH_take (i := 10) (v := .string (dt ++ da)) rfl (by kernel_rfl) (by kernel_rfl) (by kernel_rfl) (Pd.use (by repeat (first | exact Pd.body _ | apply Pd.thenK | apply Pd.block)) (by decide)) (Or.inl ⟨by rfl, ?_⟩) SD.out ?_
      · intro w' hS
        clear hS
        go_simp
      refine wpAnyH_take (i := 11) (v := .agg #[.string (dt ++ da)]) rfl (by kernel_rfl) (by kernel_rfl) (by kernel_rfl) (Pd.use (by repeat (first | exact Pd.body _ | apply Pd.thenK | apply Pd.block)) (by decide)) (Or.inl ⟨by rfl, ?_⟩) SD.out ?_
      · intro w' hS
        clear hS
        go_simp
      refine wpAnyH_ready (rs := [12]) (by kernel_rfl) (by simp) ?_
      refine AllReadyH.cons rfl (fun K hK => ?_) AllReadyH.nil
      have hst := HST.out
      go_simp
      refine hK.out _ _ S9.out (fun _ => ?_)
      clear hK
      refine wpAnyH_done (by kernel_rfl) ?_ _
      clear hst SD
      have LV9 := hideP M9.out.lv
      have m9 := M9.out.lv.m
      have f9 := M9.out.lv.mf
      go_wp2_with fail
      refine leaves_cons (f := 35) (args := #[.pointer (some ⟨L, 0, none⟩)]) (by simp) (by simp [go_sem]) ?_
      refine (unlock_deferred muLib ⟨L, 0, none⟩ .returning _ m9 f9).mono ?_
      rintro e u' w'' ⟨rfl, rfl, rfl⟩
      refine ⟨_, results_tmp rfl _ _ _, ?_, ?_, ?_⟩
      · rw [RF.out]; rfl
      · exact M9.out.kept.setL
      · unfold Pl.doM
        rw [if_pos RF.out, EF.out, HDT.out]
        exact LV9.out.lock
    · have EF := hideP (Pl.eff_ren fs nm to da)
      rw [EF.out, HDT.out] at VE
      have hs1 := Pl.withoutF_srt nm MD.out.srt
      have hl1 : (Pl.withoutF fs nm).length ≤ 401 := by have := MD.out.len; have := Pl.withoutF_len nm MD.out.srt; omega
      have hsn := VE.out.srt
      have hln : (Pl.withF (Pl.withoutF fs nm) (to, dt)).length ≤ 401 := by have := VE.out.len; omega
      go_wp2_with fail
      clear ck
      have MD := hideP (MD.out.keep (Below.refl _ _).drew)
      refine wp_region_held (S := fun w' => Sd L b w.heap.size P nm to da dt w') (by kernel_rfl) ?_
      change wpAnyH _ _ _ _ _ _ _ _ (World.drew _)
      generalize World.drew W = WD at MD ⊢
      have SD := hideP MD.out.sd
      have ST := hideP (Lm.drop (nm := nm) MD.out.lv.own hMnm 0)
      obtain ⟨w9, hst9⟩ := ST.out
      have HST := hideP hst9.1
      have M9 := hideP (MD.out.turn hst9.2.1 hst9.2.2 hs1 hl1)
      have S9 := hideP M9.out.sd
      clear ST hst9
      refine wpAnyH_take (i := 0) (v := .pointer (some ⟨L, 0, none⟩)) rfl (by kernel_rfl) (by kernel_rfl) (by kernel_rfl) (Pd.use (by repeat (first | exact Pd.body _ | apply Pd.thenK | apply Pd.block)) (by decide)) (Or.inl ⟨by rfl, ?_⟩) SD.out ?_
      · intro w' hS
        clear hS
        go_simp
      refine wpAnyH_take (i := 1) (v := .pointer (some ⟨L, 0, none⟩)) rfl (by kernel_rfl) (by kernel_rfl) (by kernel_rfl) (Pd.use (by repeat (first | exact Pd.body _ | apply Pd.thenK | apply Pd.block)) (by decide)) (Or.inl ⟨by rfl, ?_⟩) SD.out ?_
      · intro w' hS
        clear hS
        go_simp
      refine wpAnyH_take (i := 2) (v := .pointer (some ⟨L, 2, none⟩)) rfl (by kernel_rfl) (by kernel_rfl) (by kernel_rfl) (Pd.use (by repeat (first | exact Pd.body _ | apply Pd.thenK | apply Pd.block)) (by decide)) (Or.inl ⟨by rfl, ?_⟩) SD.out ?_
      · intro w' hS
        clear hS
        go_simp
      refine wpAnyH_take (i := 3) (v := .map (some b)) rfl (by kernel_rfl) (by kernel_rfl) (by kernel_rfl) (Pd.use (by repeat (first | exact Pd.body _ | apply Pd.thenK | apply Pd.block)) (by decide)) (Or.inl ⟨by rfl, ?_⟩) SD.out ?_
      · intro w' hS
        have := hS.p
        clear hS
        go_simp
      refine wpAnyH_take (i := 4) (v := .pointer (some ⟨w.heap.size, 1, none⟩)) rfl (by kernel_rfl) (by kernel_rfl) (by kernel_rfl) (Pd.use (by repeat (first | exact Pd.body _ | apply Pd.thenK | apply Pd.block)) (by decide)) (Or.inl ⟨by rfl, ?_⟩) SD.out ?_
      · intro w' hS
        clear hS
        go_simp
      refine wpAnyH_take (i := 5) (v := .string nm) rfl (by kernel_rfl) (by kernel_rfl) (by kernel_rfl) (Pd.use (by repeat (first | exact Pd.body _ | apply Pd.thenK | apply Pd.block)) (by decide)) (Or.inl ⟨by rfl, ?_⟩) SD.out ?_
      · intro w' hS
        have := hS.n
        clear hS
        go_simp
      refine wpAnyH_ready (rs := [6]) (by kernel_rfl) (by simp) ?_
      refine AllReadyH.cons rfl (fun K hK => ?_) AllReadyH.nil
      have hst := HST.out
      go_simp
      refine hK.out _ _ S9.out (fun _ => ?_)
      clear hK
      refine wpAnyH_done (by kernel_rfl) ?_ _
      clear hst SD
      go_wp2_with fail
      have MD := hideP (M9.out.keep (Below.refl _ _).drew)
      clear M9 S9 HST
      have hle : (Pl.withoutF fs nm).length ≤ 1048576 := by omega
      generalize w9 = W at MD ⊢
      refine wp_region_held (S := fun w' => Sd L b w.heap.size P nm to da dt w') (by kernel_rfl) ?_
      change wpAnyH _ _ _ _ _ _ _ _ (World.drew _)
      generalize World.drew W = WD at MD ⊢
      have SD := hideP MD.out.sd
      have ST := hideP (Lm.store (nm := to) (d := dt) MD.out.lv.own MD.out.srt hle hMto)
      obtain ⟨w9, hst9⟩ := ST.out
      have HST := hideP hst9.1
      have M9 := hideP (MD.out.turn hst9.2.1 hst9.2.2 hsn hln)
      have S9 := hideP M9.out.sd
      clear ST hst9
      refine wpAnyH_take (i := 0) (v := .pointer (some ⟨L, 0, none⟩)) rfl (by kernel_rfl) (by kernel_rfl) (by kernel_rfl) (Pd.use (by repeat (first | exact Pd.body _ | apply Pd.thenK | apply Pd.block)) (by decide)) (Or.inl ⟨by rfl, ?_⟩) SD.out ?_
      · intro w' hS
        clear hS
        go_simp
      refine wpAnyH_take (i := 1) (v := .pointer (some ⟨L, 0, none⟩)) rfl (by kernel_rfl) (by kernel_rfl) (by kernel_rfl) (Pd.use (by repeat (first | exact Pd.body _ | apply Pd.thenK | apply Pd.block)) (by decide)) (Or.inl ⟨by rfl, ?_⟩) SD.out ?_
      · intro w' hS
        clear hS
        go_simp
      refine wpAnyH_take (i := 2) (v := .pointer (some ⟨L, 2, none⟩)) rfl (by kernel_rfl) (by kernel_rfl) (by kernel_rfl) (Pd.use (by repeat (first | exact Pd.body _ | apply Pd.thenK | apply Pd.block)) (by decide)) (Or.inl ⟨by rfl, ?_⟩) SD.out ?_
      · intro w' hS
        clear hS
        go_simp
      refine wpAnyH_take (i := 3) (v := .map (some b)) rfl (by kernel_rfl) (by kernel_rfl) (by kernel_rfl) (Pd.use (by repeat (first | exact Pd.body _ | apply Pd.thenK | apply Pd.block)) (by decide)) (Or.inl ⟨by rfl, ?_⟩) SD.out ?_
      · intro w' hS
        have := hS.p
        clear hS
        go_simp
      refine wpAnyH_take (i := 4) (v := .pointer (some ⟨w.heap.size, 2, none⟩)) rfl (by kernel_rfl) (by kernel_rfl) (by kernel_rfl) (Pd.use (by repeat (first | exact Pd.body _ | apply Pd.thenK | apply Pd.block)) (by decide)) (Or.inl ⟨by rfl, ?_⟩) SD.out ?_
      · intro w' hS
        clear hS
        go_simp
      refine wpAnyH_take (i := 5) (v := .string to) rfl (by kernel_rfl) (by kernel_rfl) (by kernel_rfl) (Pd.use (by repeat (first | exact Pd.body _ | apply Pd.thenK | apply Pd.block)) (by decide)) (Or.inl ⟨by rfl, ?_⟩) SD.out ?_
      · intro w' hS
        have := hS.t
        clear hS
        go_simp
      refine wpAnyH_take (i := 6) (v := .agg #[.string dt]) rfl (by kernel_rfl) (by kernel_rfl) (by kernel_rfl) (Pd.use (by repeat (first | exact Pd.body _ | apply Pd.thenK | apply Pd.block)) (by decide)) (Or.inl ⟨by rfl, ?_⟩) SD.out ?_
      · intro w' hS
        have := hS.o
        clear hS
        go_simp
      refine wpAnyH_ready (rs := [7]) (by kernel_rfl) (by simp) ?_
      refine AllReadyH.cons rfl (fun K hK => ?_) AllReadyH.nil
      have hst := HST.out
      go_simp
      refine hK.out _ _ S9.out (fun _ => ?_)
      clear hK
      refine wpAnyH_done (by kernel_rfl) ?_ _
      clear hst SD
      have LV9 := hideP M9.out.lv
      have m9 := M9.out.lv.m
      have f9 := M9.out.lv.mf
      go_wp2_with fail
      refine leaves_cons (f := 35) (args := #[.pointer (some ⟨L, 0, none⟩)]) (by simp) (by simp [go_sem]) ?_
      refine (unlock_deferred muLib ⟨L, 0, none⟩ .returning _ m9 f9).mono ?_
      rintro e u' w'' ⟨rfl, rfl, rfl⟩
      refine ⟨_, results_tmp rfl _ _ _, ?_, ?_, ?_⟩
      · rw [RF.out]; rfl
      · exact M9.out.kept.setL
      · unfold Pl.doM
        rw [if_pos RF.out, EF.out, HDT.out]
        exact LV9.out.lock
    · have EF := hideP (Pl.eff_rem fs nm to da)
      have hs1 := Pl.withoutF_srt nm MD.out.srt
      have hl1 : (Pl.withoutF fs nm).length ≤ 401 := by have := MD.out.len; have := Pl.withoutF_len nm MD.out.srt; omega
      go_wp2_with fail
      clear ck
      have MD := hideP (MD.out.keep (Below.refl _ _).drew)
      refine wp_region_held (S := fun w' => Sd L b w.heap.size P nm to da dt w') (by kernel_rfl) ?_
      change wpAnyH _ _ _ _ _ _ _ _ (World.drew _)
      generalize World.drew W = WD at MD ⊢
      have SD := hideP MD.out.sd
      have ST := hideP (Lm.drop (nm := nm) MD.out.lv.own hMnm 0)
      obtain ⟨w9, hst9⟩ := ST.out
      have HST := hideP hst9.1
      have M9 := hideP (MD.out.turn hst9.2.1 hst9.2.2 hs1 hl1)
      have S9 := hideP M9.out.sd
      clear ST hst9
      refine wpAnyH_take (i := 0) (v := .pointer (some ⟨L, 0, none⟩)) rfl (by kernel_rfl) (by kernel_rfl) (by kernel_rfl) (Pd.use (by repeat (first | exact Pd.body _ | apply Pd.thenK | apply Pd.block)) (by decide)) (Or.inl ⟨by rfl, ?_⟩) SD.out ?_
      · intro w' hS
        clear hS
        go_simp
      refine wpAnyH_take (i := 1) (v := .pointer (some ⟨L, 0, none⟩)) rfl (by kernel_rfl) (by kernel_rfl) (by kernel_rfl) (Pd.use (by repeat (first | exact Pd.body _ | apply Pd.thenK | apply Pd.block)) (by decide)) (Or.inl ⟨by rfl, ?_⟩) SD.out ?_
      · intro w' hS
        clear hS
        go_simp
      refine wpAnyH_take (i := 2) (v := .pointer (some ⟨L, 2, none⟩)) rfl (by kernel_rfl) (by kernel_rfl) (by kernel_rfl) (Pd.use (by repeat (first | exact Pd.body _ | apply Pd.thenK | apply Pd.block)) (by decide)) (Or.inl ⟨by rfl, ?_⟩) SD.out ?_
      · intro w' hS
        clear hS
        go_simp
      refine wpAnyH_take (i := 3) (v := .map (some b)) rfl (by kernel_rfl) (by kernel_rfl) (by kernel_rfl) (Pd.use (by repeat (first | exact Pd.body _ | apply Pd.thenK | apply Pd.block)) (by decide)) (Or.inl ⟨by rfl, ?_⟩) SD.out ?_
      · intro w' hS
        have := hS.p
        clear hS
        go_simp
      refine wpAnyH_take (i := 4) (v := .pointer (some ⟨w.heap.size, 1, none⟩)) rfl (by kernel_rfl) (by kernel_rfl) (by kernel_rfl) (Pd.use (by repeat (first | exact Pd.body _ | apply Pd.thenK | apply Pd.block)) (by decide)) (Or.inl ⟨by rfl, ?_⟩) SD.out ?_
      · intro w' hS
        clear hS
        go_simp
      refine wpAnyH_take (i := 5) (v := .string nm) rfl (by kernel_rfl) (by kernel_rfl) (by kernel_rfl) (Pd.use (by repeat (first | exact Pd.body _ | apply Pd.thenK | apply Pd.block)) (by decide)) (Or.inl ⟨by rfl, ?_⟩) SD.out ?_
      · intro w' hS
        have := hS.n
        clear hS
        go_simp
      refine wpAnyH_ready (rs := [6]) (by kernel_rfl) (by simp) ?_
      refine AllReadyH.cons rfl (fun K hK => ?_) AllReadyH.nil
      have hst := HST.out
      go_simp
      refine hK.out _ _ S9.out (fun _ => ?_)
      clear hK
      refine wpAnyH_done (by kernel_rfl) ?_ _
      clear hst SD
      have LV9 := hideP M9.out.lv
      have m9 := M9.out.lv.m
      have f9 := M9.out.lv.mf
      go_wp2_with fail
      refine leaves_cons (f := 35) (args := #[.pointer (some ⟨L, 0, none⟩)]) (by simp) (by simp [go_sem]) ?_
      refine (unlock_deferred muLib ⟨L, 0, none⟩ .returning _ m9 f9).mono ?_
      rintro e u' w'' ⟨rfl, rfl, rfl⟩
      refine ⟨_, results_tmp rfl _ _ _, ?_, ?_, ?_⟩
      · rw [RF.out]; rfl
      · exact M9.out.kept.setL
      · unfold Pl.doM
        rw [if_pos RF.out, EF.out]
        exact LV9.out.lock
  · have RF := hideP hrf
    have errE : errV (Pl.refB fs ⟨kd, nm, to, da⟩) = .iface 51 (.agg #[.int .i64 (Pl.refB fs ⟨kd, nm, to, da⟩), .int .i64 0]) := by unfold errV; rw [if_neg hrf]
    rw [errE]
    have EE := hideP errE
    have m9 := LV1.out.m
    have f9 := LV1.out.mf
    have DE : Hid (Pl.doM fs ⟨kd, nm, to, da⟩ = fs) := by show _ = _; unfold Pl.doM; rw [if_neg hrf]
    generalize hc : Pl.refB fs ⟨kd, nm, to, da⟩ = c at *
    have HC := hideP hc
    clear errE hrf hc
    go_wp2_with fail
    refine leaves_cons (f := 35) (args := #[.pointer (some ⟨L, 0, none⟩)]) (by simp) (by simp [go_sem]) ?_
    refine (unlock_deferred muLib ⟨L, 0, none⟩ .returning _ m9 f9).mono ?_
    rintro e u' w'' ⟨rfl, rfl, rfl⟩
    refine ⟨_, results_tmp rfl _ _ _, ?_, KP1.out.setL, ?_⟩
    · rw [HC.out, EE.out]; rfl
    · rw [DE.out]; exact LV1.out.lock

end Go.Proofs.YtfangdhbadmolaaGreatDoor
