import Derived.Test.YtfangdhbadmolaaGreatDoorLd
import Derived.Test.YtfangdhbadmolaaGreatDoorDi
namespace Go.Proofs.YtfangdhbadmolaaGreatDoor
open Go.RowKit Go.Maps Go.MuLone
set_option linter.unusedVariables false

namespace Pl
theorem withF_app {l : List Fl} {f : Fl} (h : ∀ x ∈ l, lt x.1 f.1 = true) : withF l f = l ++ [f] := by
  unfold withF
  have e1 : l.takeWhile (fun g => lt g.1 f.1) = l := by
    induction l with
    | nil => rfl
    | cons g r ih =>
      rw [List.takeWhile_cons, if_pos (h g (List.mem_cons_self ..)), ih (fun x hx => h x (List.mem_cons_of_mem _ hx))]
  have e2 : l.filter (fun g => !(lt g.1 f.1 || decide (g.1 = f.1))) = [] := by
    rw [List.filter_eq_nil_iff]
    intro x hx
    simp [h x hx]
  rw [e1, e2]
theorem srt_take {fs : List Fl} (h : Srt fs) (k : Nat) (hk : k < fs.length) : ∀ x ∈ fs.take k, lt x.1 (at' fs k).1 = true := by
  intro x hx
  obtain ⟨i, hi, e⟩ := List.getElem_of_mem hx
  have hi' : i < k := by simp at hi; omega
  have h1 := List.pairwise_iff_getElem.1 h i k (by omega) hk hi'
  have e1 : at' fs k = fs[k] := by simp [at', List.getD, hk]
  have e2 : (fs.take k)[i] = fs[i] := by simp
  rw [← e, e1, e2]; exact h1
theorem with_next {fs : List Fl} (h : Srt fs) (k : Nat) (hk : k < fs.length) : withF (fs.take k) (at' fs k) = fs.take (k + 1) := by
  rw [withF_app (srt_take h k hk), take_snoc fs k hk]
end Pl

theorem Lm.made (w : World) : Lm (w.alloc (.map #[] 0)) w.heap.size [] := World.ownsMap_made w Tryz.prog 9 contElem

theorem mk_map (c : Int) (w : World) : (Instr.makeMap 66 (some (.int .i64 c))).run Tryz.prog w = .ok (.map (some w.heap.size)) (w.alloc (.map #[] 0)) := by kernel_rfl

set_option maxRecDepth 100000 in
set_option maxHeartbeats 4000000 in
/-- impl.liveOf -/
theorem liveOf_any (v : Value) (fs : List Pl.Fl) (w : World) (hl : fs.length ≤ 1048576) (hz : ∀ f ∈ fs, f.1.size ≤ 1048576 ∧ f.2.size ≤ 1048576) (h : RdF w.heap.size w v fs) :
    Calls Tryz.prog 18 #[.agg #[v]] w fun e w' => Below w.heap.size w w' ∧ ((Pl.diskB fs = false ∧ e = .returned (.tuple #[.pointer none, .iface 51 (.agg #[.int .i64 1, .int .i64 0])])) ∨
      (Pl.diskB fs = true ∧ ∃ L b, e = .returned (.tuple #[.pointer (some ⟨L, 0, none⟩), .nilIface]) ∧ w.heap.size ≤ L ∧ w.heap.size ≤ b ∧ Lv L b 0 fs w')) := by
  have HZ := hideP hz
  have H := hideP h
  have BA : Hid (∀ o, Below w.heap.size w (w.alloc o)) := fun o => (Below.refl _ _).alloc (Nat.le_refl _) _
  have K := hideP (fun o => implDisk_any v fs (w.alloc o) (by omega) (fun f hf => by have := hz f hf; omega) ((h.keep (BA.out o)).up (by simp)))
  obtain ⟨ao, cap, e0⟩ := h.form
  subst e0
  clear hz
  cases hd : Pl.diskB fs
  · rw [hd] at K
    clear h hd
    go_enter Tryz.func18, Tryz.ntmps18
    go_wp2_with fail
    refine (K.out _).mono ?_
    rintro e w1 ⟨rfl, hb1⟩
    have B1 := hideP ((BA.out _).trans (hb1.mono (by simp)))
    clear hb1
    go_wp2_with fail
    go_ret2
    exact ⟨B1.out, .inl ⟨trivial, rfl⟩⟩
  · rw [hd] at K
    have VD := hideP (Pl.vd_of_disk hd)
    clear hd
    generalize hn : fs.length = n at *
    have Hn : Hid (fs.length = n) := hn
    have HR := hideP (rd_at hn h)
    clear hn h
    have mm := mk_map
    go_enter Tryz.func18, Tryz.ntmps18
    go_wp2_with fail
    refine (K.out _).mono ?_
    rintro e w1 ⟨rfl, hb1⟩
    have B1 := hideP ((BA.out _).trans (hb1.mono (by simp)))
    have s1 := hb1.size
    simp at s1
    have q0 : w1.cell? ⟨w.heap.size, 0, none⟩ = some (.slice ao n cap) := (hb1.cell (p := ⟨w.heap.size, 0, none⟩) (by show w.heap.size < _; simp)).trans (by simp [go_sem])
    clear hb1
    have hlt1 : w.heap.size < w1.heap.size := by omega
    go_wp2_with fail
    clear q0
    have LM0 := hideP (Lm.made w1)
    have BM0 : Hid (Below w1.heap.size w1 (w1.alloc (.map #[] 0))) := (Below.refl _ _).alloc (Nat.le_refl _) _
    go_loopw [6, 19] (fun _ i wr => ∃ k : Nat, k ≤ n ∧ i = .int .i64 k ∧ Hid (Lm wr w1.heap.size (fs.take k)) ∧ Hid (Below w1.heap.size w1 wr)) (fun _ i _ => n - (intOf i).toNat)
    case atStart => exact ⟨0, Nat.zero_le _, rfl, LM0, BM0⟩
    case round =>
      clear LM0 BM0
      obtain ⟨k, hk, rfl, lm, hbel⟩ := hrel
      have HBW := hideP (B1.out.trans (hbel.out.mono (by omega)))
      by_cases hlt : k < n
      · obtain ⟨b, off, e0, hb, hx0, hx1⟩ := HR.out k hlt
        subst e0
        have hx0 : wr.cell? ⟨b, off + k * 2, none⟩ = some (.string (Pl.at' fs k).1) := (HBW.out.cell (p := ⟨b, off + k * 2, none⟩) hb).trans hx0
        have hx1 : wr.cell? ⟨b, off + k * 2 + 1, none⟩ = some (.string (Pl.at' fs k).2) := (HBW.out.cell (p := ⟨b, off + k * 2 + 1, none⟩) hb).trans hx1
        have hzz := HZ.out _ (Pl.at_mem (l := fs) (k := k) (by rw [Hn.out]; exact hlt))
        have NX := hideP (Pl.with_next VD.out.srt k (by rw [Hn.out]; exact hlt))
        have hlk : (fs.take k).length ≤ 1048576 := by have := List.length_take_le' k fs; rw [Hn.out] at this; omega
        have HS := hideP (show Pl.Srt (fs.take k) from VD.out.srt.sublist (List.take_sublist k fs))
        generalize Pl.at' fs k = g at *
        obtain ⟨ga, gb⟩ := g
        simp only at hx0 hx1 hzz
        have ST := hideP (Lm.store (nm := ga) (d := gb) (lm.out.keep ((Below.refl _ _).alloc (Nat.le_refl _) (.cells #[.string ga, .string gb] 59))) HS.out hlk (by unfold maxLen; omega))
        obtain ⟨w9, hst9⟩ := ST.out
        have hst := hst9.1
        have R9 : Hid (Lm w9 w1.heap.size (fs.take (k + 1)) ∧ Below w1.heap.size w1 w9) := ⟨by rw [← NX.out]; exact hst9.2.1, (hbel.out.alloc hbel.out.size _).grown hst9.2.2.grown (by simp; exact Nat.le_succ_of_le hbel.out.size) (fun k hk => by injection hk with hk; omega)⟩
        clear ST hst9 hzz
        go_wp2_with fail
        go_roundw
        case rel => exact ⟨k + 1, by omega, by go_num, R9.out.1, R9.out.2⟩
        case measure => simp [intOf]; omega
      · have LE : Hid (Lm wr w1.heap.size fs) := by
          have := lm.out
          rw [List.take_of_length_le (by rw [Hn.out]; omega)] at this
          exact this
        go_wp2_with fail
        go_ret2
        have bl : Below wr.heap.size wr (wr.alloc (.cells #[.int .i32 0, .int .u32 0, .map (some w1.heap.size)] 77)) := (Below.refl _ _).alloc (Nat.le_refl _) _
        have hw := LE.out.lt
        refine ⟨HBW.out.alloc HBW.out.size _, .inr ⟨trivial, wr.heap.size, w1.heap.size, rfl, HBW.out.size, by omega, ?_⟩⟩
        exact ⟨by simp, by simp [go_sem], by simp [go_sem], by simp [go_sem], LE.out.keep bl, by omega⟩

end Go.Proofs.YtfangdhbadmolaaGreatDoor
