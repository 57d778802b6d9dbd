import Derived.Test.YtfangdhbadmolaaGreatDoorAct
import Derived.Test.YtfangdhbadmolaaGreatDoorWi
namespace Go.Proofs.YtfangdhbadmolaaGreatDoor
open Go.RowKit
set_option linter.unusedVariables false

/-- the variables of l7Do: the disk, the act, the answer -/
structure Bx (w : World) (u : Value) (kd : Int) (nm to da : ByteArray) (W : World) : Prop where
  bel : Below w.heap.size w W
  lt : w.heap.size + 1 + 1 < W.heap.size
  c0 : W.cell? ⟨w.heap.size, 0, none⟩ = some u
  k : W.cell? ⟨w.heap.size + 1, 0, none⟩ = some (.int .i64 kd)
  n : W.cell? ⟨w.heap.size + 1, 1, none⟩ = some (.string nm)
  t : W.cell? ⟨w.heap.size + 1, 2, none⟩ = some (.string to)
  d : W.cell? ⟨w.heap.size + 1, 3, none⟩ = some (.string da)
  r : W.cell? ⟨w.heap.size + 1 + 1, 0, none⟩ = some (.slice none 0 0)
  f : W.frozen? ⟨w.heap.size + 1 + 1, 0, none⟩ = false

theorem Bx.start (w : World) (u : Value) (kd : Int) (nm to da : ByteArray) : Bx w u kd nm to da (((w.alloc (.cells #[u] 31)).alloc (.cells #[.int .i64 kd, .string nm, .string to, .string da] 35)).alloc (.cells #[.slice none 0 0] 31)) :=
  ⟨below3 w _ _ _, by simp, by simp [go_sem], by simp [go_sem], by simp [go_sem], by simp [go_sem], by simp [go_sem], by simp [go_sem], by simp [go_sem]⟩

theorem Bx.below {w W W' : World} {u : Value} {kd : Int} {nm to da : ByteArray} {B : Nat} (h : Bx w u kd nm to da W) (hb : Below B W W') (hB : w.heap.size + 1 + 1 < B) : Bx w u kd nm to da W' := by
  have l := h.lt
  refine ⟨h.bel.trans (hb.mono (by omega)), Nat.lt_of_lt_of_le h.lt hb.size, ?_, ?_, ?_, ?_, ?_, ?_, ?_⟩
  · exact (hb.cell (p := ⟨w.heap.size, 0, none⟩) (by show w.heap.size < _; omega)).trans h.c0
  · exact (hb.cell (p := ⟨w.heap.size + 1, 0, none⟩) (by show w.heap.size + 1 < _; omega)).trans h.k
  · exact (hb.cell (p := ⟨w.heap.size + 1, 1, none⟩) (by show w.heap.size + 1 < _; omega)).trans h.n
  · exact (hb.cell (p := ⟨w.heap.size + 1, 2, none⟩) (by show w.heap.size + 1 < _; omega)).trans h.t
  · exact (hb.cell (p := ⟨w.heap.size + 1, 3, none⟩) (by show w.heap.size + 1 < _; omega)).trans h.d
  · exact (hb.cell (p := ⟨w.heap.size + 1 + 1, 0, none⟩) (by show w.heap.size + 1 + 1 < _; omega)).trans h.r
  · exact (hb.frozen (p := ⟨w.heap.size + 1 + 1, 0, none⟩) (by show w.heap.size + 1 + 1 < _; omega)).trans h.f
theorem Bx.keep {w W W' : World} {u : Value} {kd : Int} {nm to da : ByteArray} (h : Bx w u kd nm to da W) (hb : Below W.heap.size W W') : Bx w u kd nm to da W' := h.below hb h.lt

namespace Pl
theorem ref_act {fs : List Fl} {a : Ac} (h : actB a = false) : refB fs a = 2 := by unfold refB; rw [if_pos h]
theorem ref_no {fs : List Fl} {a : Ac} (h : actB a = true) (hh : hasF fs a.name = false) (hk : ¬ a.kind = 1) : refB fs a = 3 := by
  unfold refB; rw [if_neg (by rw [h]; decide), if_pos ⟨hh, hk⟩]
theorem ref_full {fs : List Fl} {a : Ac} (h : actB a = true) (hh : hasF fs a.name = false) (hk : a.kind = 1) (hl : fs.length = 400) : refB fs a = 4 := by
  unfold refB; rw [if_neg (by rw [h]; decide), if_neg (fun e => e.2 hk), if_pos ⟨hh, hl⟩]
theorem ref_big {fs : List Fl} {a : Ac} (h : actB a = true) (hh : hasF fs a.name = true) (hl : 100000 < (dataF fs a.name).size + a.data.size) : refB fs a = 4 := by
  unfold refB; rw [if_neg (by rw [h]; decide), if_neg (by rw [hh]; simp), if_neg (by rw [hh]; simp), if_pos hl]
theorem ref_ok {fs : List Fl} {a : Ac} (h : actB a = true) (hh : hasF fs a.name = true ∨ (a.kind = 1 ∧ ¬ fs.length = 400)) (hl : ¬ 100000 < (dataF fs a.name).size + a.data.size) : refB fs a = 0 := by
  unfold refB
  rw [if_neg (by rw [h]; decide), if_neg ?_, if_neg ?_, if_neg hl]
  · rintro ⟨e, h2⟩
    rcases hh with hh | hh
    · rw [e] at hh; cases hh
    · exact hh.2 h2
  · rintro ⟨e, h2⟩
    rcases hh with hh | hh
    · rw [e] at hh; cases hh
    · exact h2 hh.1
/-- an act that is none of adding has no data -/
theorem act_nodata {a : Ac} (h : actB a = true) (hk : ¬ a.kind = 2) : a.data.size = 0 := by
  cases e : decide (a.data.size = 0)
  · obtain ⟨kd, nm, to, da⟩ := a
    rw [act_data kd nm to da hk e] at h; cases h
  · exact of_decide_eq_true e
theorem act_kinds {a : Ac} (h : actB a = true) : a.kind = 1 ∨ a.kind = 2 ∨ a.kind = 3 ∨ a.kind = 4 := by
  obtain ⟨kd, nm, to, da⟩ := a
  show kd = 1 ∨ kd = 2 ∨ kd = 3 ∨ kd = 4
  cases Classical.em (kd < 1 ∨ 4 < kd) with
  | inl h1 => rw [act_off kd nm to da h1] at h; cases h
  | inr h1 => omega
theorem ok_nodata {fs : List Fl} {a : Ac} (hv : Vd fs) (h : actB a = true) (hk : ¬ a.kind = 2) : ¬ 100000 < (dataF fs a.name).size + a.data.size := by
  have := act_nodata h hk
  have := data_le hv a.name
  omega
theorem eff_make (fs : List Fl) (nm to da : ByteArray) : effF fs ⟨1, nm, to, da⟩ = withF fs (nm, ByteArray.empty) := by unfold effF; rw [if_pos rfl]
theorem eff_add (fs : List Fl) (nm to da : ByteArray) : effF fs ⟨2, nm, to, da⟩ = withF fs (nm, dataF fs nm ++ da) := by unfold effF; rw [if_neg (by show ¬ (2 : Int) = 1; omega), if_pos rfl]
theorem eff_ren (fs : List Fl) (nm to da : ByteArray) : effF fs ⟨3, nm, to, da⟩ = withF (withoutF fs nm) (to, dataF fs nm) := by unfold effF; rw [if_neg (by show ¬ (3 : Int) = 1; omega), if_neg (by show ¬ (3 : Int) = 2; omega), if_pos rfl]
theorem eff_rem (fs : List Fl) (nm to da : ByteArray) : effF fs ⟨4, nm, to, da⟩ = withoutF fs nm := by unfold effF; rw [if_neg (by show ¬ (4 : Int) = 1; omega), if_neg (by show ¬ (4 : Int) = 2; omega), if_neg (by show ¬ (4 : Int) = 3; omega)]
end Pl

/-- what an act does -/
def DoPost (W : World) (u : Value) (fs : List Pl.Fl) (a : Pl.Ac) (e : Ending) (w' : World) : Prop :=
  Below W.heap.size W w' ∧ ((Pl.refB fs a = 0 ∧ ∃ v, e = .returned (.tuple #[.agg #[v], .int .i64 0]) ∧ OwF W.heap.size w' v (Pl.effF fs a)) ∨ (¬ Pl.refB fs a = 0 ∧ e = .returned (.tuple #[.agg #[u], .int .i64 (Pl.refB fs a)])))

set_option maxRecDepth 100000 in
set_option maxHeartbeats 8000000 in
/-- spec.l7Do -/
theorem l7Do_any (u : Value) (fs : List Pl.Fl) (kd : Int) (nm to da : ByteArray) (w : World) (hv : Pl.Vd fs) (hn : nm.size ≤ 1048576) (ht : to.size ≤ 1048576) (hd : da.size ≤ 1048576) (h : RdF w.heap.size w u fs) :
    Calls Tryz.prog 16 #[.agg #[u], .agg #[.int .i64 kd, .string nm, .string to, .string da]] w (DoPost w u fs ⟨kd, nm, to, da⟩) := by
  have H := hideP h
  have hl := hv.len
  obtain ⟨ao, cap, e0⟩ := h.form
  subst e0
  have HV := hideP hv
  clear hv
  generalize hln : fs.length = n at *
  have Hn : Hid (fs.length = n) := hln
  have HR := hideP (rd_at hln h)
  clear hln h
  go_enter Tryz.func16, Tryz.ntmps16
  go_wp2_with fail
  refine (l7ActOk_any kd nm to da _ (by omega) (by omega)).mono ?_
  rintro e w1 ⟨rfl, hb1⟩
  have X1 := hideP ((Bx.start w (.slice ao n cap) kd nm to da).keep hb1)
  clear hb1
  cases hA : Pl.actB ⟨kd, nm, to, da⟩
  · have RF := hideP (Pl.ref_act (fs := fs) hA)
    clear hA
    have c0 := X1.out.c0
    have ck := X1.out.k
    have cn := X1.out.n
    have ct := X1.out.t
    have cd := X1.out.d
    have cr := X1.out.r
    have cf := X1.out.f
    have lw := X1.out.lt
    have lw1 := Nat.lt_of_succ_lt lw
    have lw0 := Nat.lt_of_succ_lt lw1
    go_wp2_with fail
    refine bodyPost_ret (v := .tuple #[.agg #[.slice ao n cap], .int .i64 2]) (by simp [results, Tryz.results16, go_sem, cr]) rfl ?_
    exact ⟨X1.out.bel.setCell (by simp; omega) _, .inr ⟨by rw [RF.out]; decide, by rw [RF.out]⟩⟩
  · have HA := hideP hA
    clear hA
    have c0 := X1.out.c0
    have ck := X1.out.k
    have cn := X1.out.n
    have ct := X1.out.t
    have cd := X1.out.d
    have cr := X1.out.r
    have cf := X1.out.f
    have lw := X1.out.lt
    have lw1 := Nat.lt_of_succ_lt lw
    have lw0 := Nat.lt_of_succ_lt lw1
    go_wp2_with fail
    refine (l7At_any _ fs nm _ (by have := Hn.out; omega) ((H.out.keep X1.out.bel).up X1.out.bel.size)).mono ?_
    rintro e w2 ⟨hb2, hor⟩
    have X2 := hideP (X1.out.keep hb2)
    clear hb2 X1
    clear c0 ck cn ct cd cr cf lw lw1 lw0
    by_cases hk1 : kd = 1
    · subst hk1
      have OKD := hideP (Pl.ok_nodata HV.out HA.out (by show ¬ (1 : Int) = 2; omega))
      have EF := hideP (Pl.eff_make fs nm to da)
      rcases hor with ⟨hh, rfl⟩ | ⟨hh, i, hi, rfl, hdat⟩
      · by_cases h4 : n = 400
        · have RF := hideP (Pl.ref_full (a := ⟨1, nm, to, da⟩) HA.out hh rfl (by rw [Hn.out]; exact h4))
          have h4' : (400 : Int) ≤ n := by omega
          clear hh h4
          have c0 := X2.out.c0
          have ck := X2.out.k
          have cn := X2.out.n
          have ct := X2.out.t
          have cd := X2.out.d
          have cr := X2.out.r
          have cf := X2.out.f
          have lw := X2.out.lt
          have lw1 := Nat.lt_of_succ_lt lw
          have lw0 := Nat.lt_of_succ_lt lw1
          go_wp2_with fail
          refine bodyPost_ret (v := .tuple #[.agg #[.slice ao n cap], .int .i64 4]) (by simp [results, Tryz.results16, go_sem, cr]) rfl ?_
          exact ⟨X2.out.bel.setCell (by simp; omega) _, .inr ⟨by rw [RF.out]; decide, by rw [RF.out]⟩⟩
        · have RF := hideP (Pl.ref_ok (a := ⟨1, nm, to, da⟩) HA.out (.inr ⟨rfl, by rw [Hn.out]; exact h4⟩) OKD.out)
          have h4' : ¬ (400 : Int) ≤ n := by omega
          clear hh
          have c0 := X2.out.c0
          have ck := X2.out.k
          have cn := X2.out.n
          have ct := X2.out.t
          have cd := X2.out.d
          have cr := X2.out.r
          have cf := X2.out.f
          have lw := X2.out.lt
          have lw1 := Nat.lt_of_succ_lt lw
          have lw0 := Nat.lt_of_succ_lt lw1
          go_wp2_with fail
          refine (l7With_any _ fs nm ByteArray.empty _ (by have := Hn.out; omega) ((H.out.keep X2.out.bel).up X2.out.bel.size)).mono ?_
          rintro e w3 ⟨v, rfl, ho, hb3⟩
          have X3 := hideP (X2.out.keep hb3)
          clear hb3
          clear c0 ck cn ct cd cr cf lw lw1 lw0
          obtain ⟨x9, y9, e9⟩ := ho.form
          subst e9
          have HO := hideP ho
          have lwp := X2.out.lt
          clear ho
          have c0 := X3.out.c0
          have ck := X3.out.k
          have cn := X3.out.n
          have ct := X3.out.t
          have cd := X3.out.d
          have cr := X3.out.r
          have cf := X3.out.f
          have lw := X3.out.lt
          have lw1 := Nat.lt_of_succ_lt lw
          have lw0 := Nat.lt_of_succ_lt lw1
          go_wp2_with fail
          refine bodyPost_ret (v := .tuple #[.agg #[.slice x9 (Pl.withF fs (nm, ByteArray.empty)).length y9], .int .i64 0]) (by simp [results, Tryz.results16, go_sem, cr]) rfl ?_
          refine ⟨X3.out.bel.setCell (by simp; omega) _, .inl ⟨RF.out, _, rfl, ?_⟩⟩
          rw [EF.out]
          exact (OwF.store (b := w.heap.size + 1 + 1) HO.out (by omega) _).base (by omega)
      · have RF := hideP (Pl.ref_ok (a := ⟨1, nm, to, da⟩) HA.out (.inl hh) OKD.out)
        have hi' : ¬ (i : Int) < 0 := by omega
        clear hh hdat
        have c0 := X2.out.c0
        have ck := X2.out.k
        have cn := X2.out.n
        have ct := X2.out.t
        have cd := X2.out.d
        have cr := X2.out.r
        have cf := X2.out.f
        have lw := X2.out.lt
        have lw1 := Nat.lt_of_succ_lt lw
        have lw0 := Nat.lt_of_succ_lt lw1
        go_wp2_with fail
        refine (l7With_any _ fs nm ByteArray.empty _ (by have := Hn.out; omega) ((H.out.keep X2.out.bel).up X2.out.bel.size)).mono ?_
        rintro e w3 ⟨v, rfl, ho, hb3⟩
        have X3 := hideP (X2.out.keep hb3)
        clear hb3
        clear c0 ck cn ct cd cr cf lw lw1 lw0
        obtain ⟨x9, y9, e9⟩ := ho.form
        subst e9
        have HO := hideP ho
        have lwp := X2.out.lt
        clear ho
        have c0 := X3.out.c0
        have ck := X3.out.k
        have cn := X3.out.n
        have ct := X3.out.t
        have cd := X3.out.d
        have cr := X3.out.r
        have cf := X3.out.f
        have lw := X3.out.lt
        have lw1 := Nat.lt_of_succ_lt lw
        have lw0 := Nat.lt_of_succ_lt lw1
        go_wp2_with fail
        refine bodyPost_ret (v := .tuple #[.agg #[.slice x9 (Pl.withF fs (nm, ByteArray.empty)).length y9], .int .i64 0]) (by simp [results, Tryz.results16, go_sem, cr]) rfl ?_
        refine ⟨X3.out.bel.setCell (by simp; omega) _, .inl ⟨RF.out, _, rfl, ?_⟩⟩
        rw [EF.out]
        exact (OwF.store (b := w.heap.size + 1 + 1) HO.out (by omega) _).base (by omega)
    · have hk1' : (kd == 1) = false := by simp [hk1]
      rcases hor with ⟨hh, rfl⟩ | ⟨hh, i, hi, rfl, hdat⟩
      · have RF := hideP (Pl.ref_no (a := ⟨kd, nm, to, da⟩) HA.out hh hk1)
        clear hh hk1
        have c0 := X2.out.c0
        have ck := X2.out.k
        have cn := X2.out.n
        have ct := X2.out.t
        have cd := X2.out.d
        have cr := X2.out.r
        have cf := X2.out.f
        have lw := X2.out.lt
        have lw1 := Nat.lt_of_succ_lt lw
        have lw0 := Nat.lt_of_succ_lt lw1
        go_wp2_with fail
        refine bodyPost_ret (v := .tuple #[.agg #[.slice ao n cap], .int .i64 3]) (by simp [results, Tryz.results16, go_sem, cr]) rfl ?_
        exact ⟨X2.out.bel.setCell (by simp; omega) _, .inr ⟨by rw [RF.out]; decide, by rw [RF.out]⟩⟩
      · have hi' : ¬ (i : Int) < 0 := by omega
        have HH := hideP hh
        have HDS := hideP (Pl.data_le HV.out nm)
        obtain ⟨b, off, e0, hb, _, hx⟩ := HR.out i (by rw [Hn.out] at hi; exact hi)
        subst e0
        rw [← hdat] at hx
        have hx1 : w2.cell? ⟨b, off + i * 2 + 1, none⟩ = some (.string (Pl.dataF fs nm)) := (X2.out.bel.cell (p := ⟨b, off + i * 2 + 1, none⟩) hb).trans hx
        have hin : i < n := by rw [Hn.out] at hi; exact hi
        clear hx hdat hh hi
        by_cases hk2 : kd = 2
        · subst hk2
          have EF := hideP (Pl.eff_add fs nm to da)
          have hds := HDS.out
          by_cases hbig : 100000 < (Pl.dataF fs nm).size + da.size
          · have RF := hideP (Pl.ref_big (a := ⟨2, nm, to, da⟩) HA.out HH.out hbig)
            have hbig' : (100000 : Int) < ((Pl.dataF fs nm).size : Int) + da.size := by omega
            generalize Pl.dataF fs nm = dt at *
            clear hk1 hk1' hbig
            have c0 := X2.out.c0
            have ck := X2.out.k
            have cn := X2.out.n
            have ct := X2.out.t
            have cd := X2.out.d
            have cr := X2.out.r
            have cf := X2.out.f
            have lw := X2.out.lt
            have lw1 := Nat.lt_of_succ_lt lw
            have lw0 := Nat.lt_of_succ_lt lw1
            go_wp2_with fail
            refine bodyPost_ret (v := .tuple #[.agg #[.slice (some ⟨b, off, none⟩) n cap], .int .i64 4]) (by simp [results, Tryz.results16, go_sem, cr]) rfl ?_
            exact ⟨X2.out.bel.setCell (by simp; omega) _, .inr ⟨by rw [RF.out]; decide, by rw [RF.out]⟩⟩
          · have RF := hideP (Pl.ref_ok (a := ⟨2, nm, to, da⟩) HA.out (.inl HH.out) hbig)
            have hbig' : ¬ (100000 : Int) < ((Pl.dataF fs nm).size : Int) + da.size := by omega
            have hcat : ¬ (9223372036854775807 < (Pl.dataF fs nm).size + da.size) := by omega
            generalize Pl.dataF fs nm = dt at *
            clear hk1 hk1' hbig
            have c0 := X2.out.c0
            have ck := X2.out.k
            have cn := X2.out.n
            have ct := X2.out.t
            have cd := X2.out.d
            have cr := X2.out.r
            have cf := X2.out.f
            have lw := X2.out.lt
            have lw1 := Nat.lt_of_succ_lt lw
            have lw0 := Nat.lt_of_succ_lt lw1
            go_wp2_with fail
            refine (l7With_any _ fs nm (dt ++ da) _ (by have := Hn.out; omega) ((H.out.keep X2.out.bel).up X2.out.bel.size)).mono ?_
            rintro e w3 ⟨v, rfl, ho, hb3⟩
            have X3 := hideP (X2.out.keep hb3)
            clear hb3 hx1 hcat
            clear c0 ck cn ct cd cr cf lw lw1 lw0
            obtain ⟨x9, y9, e9⟩ := ho.form
            subst e9
            have HO := hideP ho
            have lwp := X2.out.lt
            clear ho
            have c0 := X3.out.c0
            have ck := X3.out.k
            have cn := X3.out.n
            have ct := X3.out.t
            have cd := X3.out.d
            have cr := X3.out.r
            have cf := X3.out.f
            have lw := X3.out.lt
            have lw1 := Nat.lt_of_succ_lt lw
            have lw0 := Nat.lt_of_succ_lt lw1
            go_wp2_with fail
            refine bodyPost_ret (v := .tuple #[.agg #[.slice x9 (Pl.withF fs (nm, dt ++ da)).length y9], .int .i64 0]) (by simp [results, Tryz.results16, go_sem, cr]) rfl ?_
            refine ⟨X3.out.bel.setCell (by simp; omega) _, .inl ⟨RF.out, _, rfl, ?_⟩⟩
            rw [EF.out]
            exact (OwF.store (b := w.heap.size + 1 + 1) HO.out (by omega) _).base (by omega)
        · have hk2' : (kd == 2) = false := by simp [hk2]
          have RF := hideP (Pl.ref_ok (a := ⟨kd, nm, to, da⟩) HA.out (.inl HH.out) (Pl.ok_nodata HV.out HA.out hk2))
          have HK := hideP (Pl.act_kinds HA.out)
          have LW := hideP (Pl.withoutF_len nm HV.out.srt)
          generalize hdt : Pl.dataF fs nm = dt at *
          have HDT := hideP hdt
          clear hdt
          have c0 := X2.out.c0
          have ck := X2.out.k
          have cn := X2.out.n
          have ct := X2.out.t
          have cd := X2.out.d
          have cr := X2.out.r
          have cf := X2.out.f
          have lw := X2.out.lt
          have lw1 := Nat.lt_of_succ_lt lw
          have lw0 := Nat.lt_of_succ_lt lw1
          go_wp2_with fail
          refine (l7Without_any _ fs nm _ (by have := Hn.out; omega) ((H.out.keep X2.out.bel).up X2.out.bel.size)).mono ?_
          rintro e w3 ⟨v, rfl, ho, hb3⟩
          have X3 := hideP (X2.out.keep hb3)
          have hs3 := hb3.size
          clear hb3 hx1
          clear c0 ck cn ct cd cr cf lw lw1 lw0
          obtain ⟨x3, y3, e3⟩ := ho.form
          subst e3
          have HO3 := hideP ho
          clear ho
          by_cases hk3 : kd = 3
          · subst hk3
            have EF := hideP (Pl.eff_ren fs nm to da)
            rw [HDT.out] at EF
            have X4 := hideP (X3.out.keep ((Below.refl _ _).alloc (Nat.le_refl _) (.cells #[.slice x3 (Pl.withoutF fs nm).length y3] 31)))
            have R4 := hideP ((HO3.out.keep ((Below.refl _ _).alloc (Nat.le_refl _) (.cells #[.slice x3 (Pl.withoutF fs nm).length y3] 31))).rd)
            have hlw : (Pl.withoutF fs nm).length ≤ 400 := by have := LW.out; have := Hn.out; omega
            generalize Pl.withoutF fs nm = zs at *
            clear hk1 hk1' hk2 hk2'
            have c0 := X3.out.c0
            have ck := X3.out.k
            have cn := X3.out.n
            have ct := X3.out.t
            have cd := X3.out.d
            have cr := X3.out.r
            have cf := X3.out.f
            have lw := X3.out.lt
            have lw1 := Nat.lt_of_succ_lt lw
            have lw0 := Nat.lt_of_succ_lt lw1
            go_wp2_with fail
            refine (l7With_any _ zs to dt _ (by omega) R4.out).mono ?_
            rintro e w5 ⟨v, rfl, ho, hb5⟩
            have X5 := hideP (X4.out.keep hb5)
            have q5 : w5.cell? ⟨w3.heap.size, 0, none⟩ = some (.slice x3 zs.length y3) := (hb5.cell (p := ⟨w3.heap.size, 0, none⟩) (by show w3.heap.size < _; simp)).trans (by simp [go_sem])
            have g5 : w5.frozen? ⟨w3.heap.size, 0, none⟩ = false := (hb5.frozen (p := ⟨w3.heap.size, 0, none⟩) (by show w3.heap.size < _; simp)).trans (by simp [go_sem])
            have hs5 := hb5.size
            simp at hs5
            clear c0 ck cn ct cd cr cf lw lw1 lw0
            obtain ⟨x9, y9, e9⟩ := ho.form
            subst e9
            have HO : Hid (OwF (w3.heap.size + 1) w5 (.slice x9 (Pl.withF zs (to, dt)).length y9) (Pl.withF zs (to, dt))) := by show OwF _ _ _ _; simpa using ho
            have X6 := hideP (X5.out.below (B := w3.heap.size) (show Below w3.heap.size w5 (w5.setCell ⟨w3.heap.size, 0, none⟩ (.slice x9 (Pl.withF zs (to, dt)).length y9)) from (Below.refl w3.heap.size w5).setCell (by exact Nat.le_refl _) _) (by have := X3.out.lt; omega))
            clear ho hb5
            have c0 := X5.out.c0
            have ck := X5.out.k
            have cn := X5.out.n
            have ct := X5.out.t
            have cd := X5.out.d
            have cr := X5.out.r
            have cf := X5.out.f
            have lw := X5.out.lt
            have lw1 := Nat.lt_of_succ_lt lw
            have lw0 := Nat.lt_of_succ_lt lw1
            have l3 := X3.out.lt
            have hne : ¬ w.heap.size + 1 + 1 = w3.heap.size := by omega
            have hne2 : ¬ w3.heap.size = w.heap.size + 1 + 1 := by omega
            go_wp2_with fail
            refine bodyPost_ret (v := .tuple #[.agg #[.slice x9 (Pl.withF zs (to, dt)).length y9], .int .i64 0]) (by simp [results, Tryz.results16, go_sem, cr]) rfl ?_
            refine ⟨X6.out.bel.setCell (by simp; omega) _, .inl ⟨RF.out, _, rfl, ?_⟩⟩
            rw [EF.out]
            exact (OwF.store (b := w.heap.size + 1 + 1) (OwF.store (b := w3.heap.size) HO.out (by omega) _) (by omega) _).base (by omega)
          · have hk3' : (kd == 3) = false := by simp [hk3]
            have hk4 : kd = 4 := by have h4 : kd = 1 ∨ kd = 2 ∨ kd = 3 ∨ kd = 4 := HK.out; omega
            subst hk4
            have EF := hideP (Pl.eff_rem fs nm to da)
            clear hk1 hk1' hk2 hk2' hk3
            have c0 := X3.out.c0
            have ck := X3.out.k
            have cn := X3.out.n
            have ct := X3.out.t
            have cd := X3.out.d
            have cr := X3.out.r
            have cf := X3.out.f
            have lw := X3.out.lt
            have lw1 := Nat.lt_of_succ_lt lw
            have lw0 := Nat.lt_of_succ_lt lw1
            go_wp2_with fail
            refine bodyPost_ret (v := .tuple #[.agg #[.slice x3 (Pl.withoutF fs nm).length y3], .int .i64 0]) (by simp [results, Tryz.results16, go_sem, cr, lw]) rfl ?_
            refine ⟨(X3.out.bel.setCell (by simp; omega) _).alloc (by simp; omega) _, .inl ⟨RF.out, _, rfl, ?_⟩⟩
            rw [EF.out]
            have lwp := X2.out.lt
            exact ((OwF.store (b := w.heap.size + 1 + 1) HO3.out (by omega) _).keep ((Below.refl _ _).alloc (Nat.le_refl _) _)).base (by omega)

end Go.Proofs.YtfangdhbadmolaaGreatDoor
