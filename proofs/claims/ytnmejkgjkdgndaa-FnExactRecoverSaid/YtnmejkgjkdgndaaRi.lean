import Derived.Test.YtnmejkgjkdgndaaMk
import Derived.Test.YtnmejkgjkdgndaaTmp
import Derived.Test.YtnmejkgjkdgndaaDk
import Derived.Test.YtnmejkgjkdgndaaDi
namespace Go.Proofs.Ytnmejkgjkdgndaa
open Go.RowKit
set_option linter.unusedVariables false

namespace Pl
def recM (fs : List Fl) : List Fl := if diskB fs = true then left fs else fs
theorem left_yes (fs : List Fl) (k : Nat) (h : k < fs.length) (ht : tmpB (at' fs k).1 = true) : left (fs.take (k + 1)) = left (fs.take k) := by
  rw [take_snoc fs k h]; generalize at' fs k = f at *; simp [left, List.filter_append, ht]
theorem left_no (fs : List Fl) (k : Nat) (h : k < fs.length) (ht : tmpB (at' fs k).1 = false) : left (fs.take (k + 1)) = left (fs.take k) ++ [at' fs k] := by
  rw [take_snoc fs k h]; generalize at' fs k = f at *; simp [left, List.filter_append, ht]
theorem left_len (fs : List Fl) (k : Nat) : (left (fs.take k)).length ≤ k := by
  have h1 := List.length_filter_le (fun f : Fl => !tmpB f.1) (fs.take k)
  have h2 := List.length_take_le k fs
  unfold left; omega
theorem diskB_len {fs : List Fl} (h : diskB fs = true) : fs.length ≤ 400 := by
  simp only [diskB, Bool.and_eq_true, decide_eq_true_eq] at h
  exact h.1
theorem recM_len (fs : List Fl) : (recM fs).length ≤ fs.length := by
  unfold recM
  split
  · exact List.length_filter_le _ _
  · exact Nat.le_refl _
end Pl

/-- what Recover does -/
def RecPost (W : World) (fs : List Pl.Fl) (e : Ending) (w' : World) : Prop :=
  Below W.heap.size W w' ∧ ∃ u, e = .returned (.tuple #[.agg #[u], .bool (Pl.diskB fs)]) ∧ OwF W.heap.size w' u (Pl.recM fs)

/-- a store of another block -/
theorem OwF.storeN {B : Nat} {w : World} {u : Value} {fs : List Pl.Fl} (h : OwF B w u fs) {b o : Nat} (hb : b < B) (v : Value) : OwF B (w.setCell ⟨b, o, none⟩ v) u fs := h.store hb v

theorem cell_grown {w w' : World} {r : Option Nat} {b o : Nat} {v : Value} (hg : w.grownBy w' r) (hb : b < w.heap.size) (hr : some b ≠ r) (h : w.cell? ⟨b, o, none⟩ = some v) : w'.cell? ⟨b, o, none⟩ = some v :=
  (World.cell?_of_block (w := w) (a := ⟨b, o, none⟩) (hg.block b hb hr)).trans h
theorem frozen_grown {w w' : World} {r : Option Nat} {b o : Nat} (hg : w.grownBy w' r) (hb : b < w.heap.size) (hr : some b ≠ r) (h : w.frozen? ⟨b, o, none⟩ = false) : w'.frozen? ⟨b, o, none⟩ = false :=
  (World.frozen?_of_block (w := w) (a := ⟨b, o, none⟩) (hg.block b hb hr)).trans h

set_option maxRecDepth 100000 in
set_option maxHeartbeats 2000000 in
/-- impl.Recover -/
theorem implRec_any (v : Value) (fs : List Pl.Fl) (w : World) (hl : fs.length ≤ 1048576) (hz : ∀ f ∈ fs, f.1.size ≤ 9223372036854775807 ∧ f.2.size ≤ 9223372036854775807) (h : RdF w.heap.size w v fs) :
    Calls Try.prog 11 #[.agg #[v]] w (RecPost w fs) := by
  have H := hideP h
  have HZ := hideP hz
  have B2 : Hid (∀ o1 o2 : Obj, Below w.heap.size w ((w.alloc o1).alloc o2)) := fun o1 o2 => ((Below.refl _ _).alloc (Nat.le_refl _) _).alloc (by simp) _
  have K := hideP (fun o1 o2 => implDisk_any v fs ((w.alloc o1).alloc o2) (by omega) hz ((h.keep (B2.out o1 o2)).up (by simp; omega)))
  obtain ⟨ao, cap, e0, hrd⟩ := h
  subst e0
  clear hz
  cases hd : Pl.diskB fs
  · rw [hd] at K
    clear hrd
    have HD := hideP hd
    clear hd
    go_enter Try.func11, Try.ntmps11
    go_wp2_with fail
    refine (K.out _ _).mono ?_
    rintro e w1 ⟨rfl, hb1⟩
    have B1 := hideP ((B2.out _ _).trans (hb1.mono (by simp; omega)))
    have s1 := hb1.size
    simp at s1
    obtain ⟨hc, hf⟩ := bcell hb1
    have q0 : w1.cell? ⟨w.heap.size, 0, none⟩ = some (.slice ao fs.length cap) := by rw [hc w.heap.size 0 (by simp; omega)]; simp [go_sem]
    have r0 : w1.cell? ⟨w.heap.size + 1, 0, none⟩ = some (.slice none 0 0) := by rw [hc (w.heap.size + 1) 0 (by simp)]; simp [go_sem]
    have f0 : w1.frozen? ⟨w.heap.size + 1, 0, none⟩ = false := by rw [hf (w.heap.size + 1) 0 (by simp)]; simp [go_sem]
    clear hc hf hb1
    go_wp2_with fail
    refine (sameDisk_any _ fs _ hl ((H.out.keep B1.out).up (by omega))).mono ?_
    rintro e w2 ⟨u, rfl, ho, hb2⟩
    have B3 := hideP (B1.out.trans (hb2.mono (by omega)))
    have HO := hideP ho
    have r1 := (hb2.cell (p := ⟨w.heap.size + 1, 0, none⟩) (by show w.heap.size + 1 < _; omega)).trans r0
    have f1 := (hb2.frozen (p := ⟨w.heap.size + 1, 0, none⟩) (by show w.heap.size + 1 < _; omega)).trans f0
    obtain ⟨x2, y2, e2⟩ := ho.form
    subst e2
    clear ho hb2 q0 r0 f0
    go_wp2_with fail
    refine bodyPost_ret (v := .tuple #[.agg #[.slice x2 fs.length y2], .bool false]) (by simp [results, Try.results11, go_sem, r1]) rfl ?_
    refine ⟨B3.out.setCell (by simp) _, .slice x2 fs.length y2, by rw [HD.out], ?_⟩
    unfold Pl.recM
    rw [HD.out, if_neg (by decide)]
    exact (HO.out.store (by omega) _).base (by omega)
  · rw [hd] at K
    have hm := Pl.diskB_len hd
    have HD := hideP hd
    clear hd
    generalize hn : fs.length = n at *
    have Hn : Hid (fs.length = n) := hn
    clear hn
    have HR : Hid (∀ k, k < n → ∃ b off, ao = some ⟨b, off, none⟩ ∧ b < w.heap.size ∧ (w.cell? ⟨b, off + k * 2, none⟩ = some (.string (Pl.at' fs k).1) ∧ w.cell? ⟨b, off + k * 2 + 1, none⟩ = some (.string (Pl.at' fs k).2))) := by
      intro k hk
      rcases hrd with h0 | ⟨b, off, hb, e, hc⟩
      · omega
      · exact ⟨b, off, e, hb, hc k hk⟩
    clear hrd
    go_enter Try.func11, Try.ntmps11
    go_wp2_with fail
    refine (K.out _ _).mono ?_
    rintro e w1 ⟨rfl, hb1⟩
    have B1 := hideP ((B2.out _ _).trans (hb1.mono (by simp; omega)))
    have s1 := hb1.size
    simp at s1
    obtain ⟨hc, hf⟩ := bcell hb1
    have q0 : w1.cell? ⟨w.heap.size, 0, none⟩ = some (.slice ao n cap) := by rw [hc w.heap.size 0 (by simp; omega)]; simp [go_sem]
    have r0 : w1.cell? ⟨w.heap.size + 1, 0, none⟩ = some (.slice none 0 0) := by rw [hc (w.heap.size + 1) 0 (by simp)]; simp [go_sem]
    have f0 : w1.frozen? ⟨w.heap.size + 1, 0, none⟩ = false := by rw [hf (w.heap.size + 1) 0 (by simp)]; simp [go_sem]
    have R0 := hideP (And.intro r0 f0)
    clear hc hf hb1 r0 f0
    go_wp2_with fail
    go_loopw [4, 6, 15] (fun u _ i wr => ∃ k : Nat, k ≤ n ∧ i = .int .i64 k ∧ Hid (OwnF w1.heap.size wr u (Pl.left (fs.take k))) ∧ Hid (Below w1.heap.size w1 wr)) (fun _ _ i _ => n - (intOf i).toNat)
    case atStart => exact ⟨0, Nat.zero_le _, rfl, World.ownsRow_nil _ _ _ _, Below.refl _ _⟩
    case round =>
      obtain ⟨k, hk, rfl, ho, hbel⟩ := hrel
      clear q0
      by_cases hlt : k < n
      · obtain ⟨b, off, e0, hb, hx0, hx1⟩ := HR.out k hlt
        subst e0
        have HBW := hideP (B1.out.trans (hbel.out.mono (by omega)))
        have hx0 : wr.cell? ⟨b, off + k * 2, none⟩ = some (.string (Pl.at' fs k).1) := (HBW.out.cell (p := ⟨b, off + k * 2, none⟩) hb).trans hx0
        have hx1 : wr.cell? ⟨b, off + k * 2 + 1, none⟩ = some (.string (Pl.at' fs k).2) := (HBW.out.cell (p := ⟨b, off + k * 2 + 1, none⟩) hb).trans hx1
        have LY := hideP (Pl.left_yes fs k (by rw [Hn.out]; exact hlt))
        have LN := hideP (Pl.left_no fs k (by rw [Hn.out]; exact hlt))
        have LL := hideP (Pl.left_len fs k)
        have hzz := HZ.out _ (Pl.at_mem (l := fs) (k := k) (by rw [Hn.out]; exact hlt))
        have hsz := hbel.out.size
        generalize Pl.at' fs k = f at *
        obtain ⟨fa, fb⟩ := f
        simp only at hx0 hx1 hzz LY LN
        have KT := hideP (fun w => hasSuffix_any fa w hzz.1)
        clear hzz
        obtain ⟨x2, y2, e2⟩ := own_form ho.out
        cases ht : Pl.tmpB fa
        · rw [ht] at KT
          have LE := hideP (LN.out ht)
          have OA : Hid (∀ o1 o2, OwnF w1.heap.size ((wr.alloc o1).alloc o2) (.slice x2 (Pl.left (fs.take k)).length y2) (Pl.left (fs.take k))) := fun o1 o2 => by rw [← e2]; exact (ho.out.alloc o1).alloc o2
          have RN : Hid (∀ o1, RdF (wr.heap.size + 1 + 1) ((wr.alloc o1).alloc (.cells #[.string fa, .string fb] 38)) (.slice (some ⟨wr.heap.size + 1, 0, none⟩) 1 1) [(fa, fb)]) := fun o1 => by
            have := rdF_new (wr.alloc o1) (fa, fb) 38
            simpa using this
          have BA : Hid (∀ o1 o2, Below w1.heap.size w1 ((wr.alloc o1).alloc o2)) := fun o1 o2 => (hbel.out.alloc hsz o1).alloc (by simp; omega) o2
          have OG : Hid (∀ kk, (Value.slice x2 (Pl.left (fs.take k)).length y2).ownBlock = some kk → w1.heap.size ≤ kk) := fun kk hkk => by rw [← e2] at hkk; exact (ho.out.lt kk hkk).1
          subst e2
          clear ht LN LY
          generalize Pl.left (fs.take k) = ls at *
          have hll := LL.out
          go_wp2_with (first
            | (go_at_call 22; refine (KT.out _).mono ?_; rintro e w' ⟨rfl, rfl⟩)
            | (at_builtin; refine wpList_append_F (base := w1.heap.size) _ rfl _ _ rfl _ _ rfl rfl ls [(fa, fb)] (OA.out _ _) (RN.out _) (by simp; omega) (by simp; omega) ?_))
          intro v' w9 ho9 hg9 hat9
          have O9 := hideP ho9
          have B9 := hideP ((BA.out _ _).grown hg9 (by simp; omega) OG.out)
          clear ho9 hg9 hat9
          go_wp2_with fail
          go_roundw
          case rel => exact ⟨k + 1, by omega, by go_num, by show OwnF _ _ _ _; rw [LE.out]; exact O9.out, B9⟩
          case measure => simp [intOf]; omega
        · rw [ht] at KT
          have LE := hideP (LY.out ht)
          have OA : Hid (∀ o1, OwnF w1.heap.size (wr.alloc o1) (.slice x2 (Pl.left (fs.take k)).length y2) (Pl.left (fs.take k))) := fun o1 => by rw [← e2]; exact ho.out.alloc o1
          have BA : Hid (∀ o1, Below w1.heap.size w1 (wr.alloc o1)) := fun o1 => hbel.out.alloc hsz o1
          subst e2
          clear ht LN LY
          go_wp2_with (go_at_call 22; refine (KT.out _).mono ?_; rintro e w' ⟨rfl, rfl⟩)
          go_roundw
          case rel => exact ⟨k + 1, by omega, by go_num, by show OwnF _ _ _ _; rw [LE.out]; exact OA.out _, BA.out _⟩
          case measure => simp [intOf]; omega
      · have HBW := hideP (B1.out.trans (hbel.out.mono (by omega)))
        have hsz := hbel.out.size
        have r1 := (hbel.out.cell (p := ⟨w.heap.size + 1, 0, none⟩) (by show w.heap.size + 1 < _; omega)).trans R0.out.1
        have f1 := (hbel.out.frozen (p := ⟨w.heap.size + 1, 0, none⟩) (by show w.heap.size + 1 < _; omega)).trans R0.out.2
        have OE : Hid (OwnF w1.heap.size wr u4 (Pl.left fs)) := by
          have := ho.out
          rw [List.take_of_length_le (by rw [Hn.out]; omega)] at this
          exact this
        obtain ⟨x2, y2, e2⟩ := own_form OE.out
        subst e2
        have OF := hideP (owF_of_own OE.out)
        clear ho OE
        go_wp2_with fail
        refine bodyPost_ret (v := .tuple #[.agg #[.slice x2 (Pl.left fs).length y2], .bool true]) (by simp [results, Try.results11, go_sem, r1]) rfl ?_
        refine ⟨HBW.out.setCell (by simp) _, .slice x2 (Pl.left fs).length y2, by rw [HD.out], ?_⟩
        unfold Pl.recM
        rw [HD.out, if_pos rfl]
        exact (OF.out.store (by omega) _).base (by omega)

end Go.Proofs.Ytnmejkgjkdgndaa
