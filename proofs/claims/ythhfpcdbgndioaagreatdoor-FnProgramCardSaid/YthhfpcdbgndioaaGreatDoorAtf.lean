import Derived.Test.YthhfpcdbgndioaaGreatDoorNxt
namespace Go.Proofs.YthhfpcdbgndioaaGreatDoor
open Go.RowKit
set_option linter.unusedVariables false
set_option maxRecDepth 100000
theorem field68 (k v : Int) (tx : ByteArray) (w : World) : (Instr.field 79 (.agg #[.int .i64 k, .string tx, .int .i64 v]) 1).run Tryz.prog w = .ok (.string tx) w := by kernel_rfl
theorem look_at {l : List Pl.Itk} {p cap a o : Nat} {ao : Option Addr} {be : Bool} {w : World} (hl : l.length ≤ 1048576) (ha : a ≤ 1048590) (hP : Ps w p ao l.length cap a o be) (hR : RdJ w.heap.size w ao l) :
    Calls Tryz.prog 58 #[.pointer (some ⟨p, 0, none⟩), .int .i64 0] w fun e w' => e = .returned (.agg #[.int .i64 (Pl.tkAt l a).k, .string (Pl.tkAt l a).tx, .int .i64 (Pl.tkAt l a).v]) ∧ Below w.heap.size w w' :=
  look_any l p cap ao a 0 w hl (by omega) (by omega) hP.lt hP.c0 hP.c1 hR
theorem grown_none {w w' : World} (hb : Below w.heap.size w w') (r : Option Nat) : w.grownBy w' r := ⟨hb.os, hb.tape, hb.output, hb.size, fun k hk _ => hb.block k hk⟩
set_option maxHeartbeats 4000000 in
/-- (*impl.parser).sign -/
theorem sign_any (l : List Pl.Itk) (p cap a o : Nat) (ao : Option Addr) (be : Bool) (text : ByteArray) (w : World) (hl : l.length ≤ 1048576) (ha : a ≤ 1048590) (hP : Ps w p ao l.length cap a o be) (hR : RdJ w.heap.size w ao l) :
    Calls Tryz.prog 57 #[.pointer (some ⟨p, 0, none⟩), .string text] w fun e w' => e = .returned (.bool (decide ((Pl.tkAt l a).tx = text))) ∧ Ps w' p ao l.length cap (if (Pl.tkAt l a).tx = text then a + 1 else a) o be ∧ w.grownBy w' (some p) := by
  have K := hideP (look_at hl ha hP hR)
  have HP := hideP hP
  clear hR hP
  generalize Pl.tkAt l a = t at *
  generalize l.length = n at *
  have hfd := field68 t.k t.v t.tx
  by_cases h : t.tx = text
  · have hq : (t.tx.toList == text.toList) = true := by rw [ba_eq]; exact decide_eq_true h
    rw [decide_eq_true h, if_pos h]
    clear h
    go_enter Tryz.func57, Tryz.ntmps57
    go_wp2_with fail
    refine K.out.mono ?_
    rintro e w1 ⟨rfl, hb1⟩
    have P1 := hideP (HP.out.keep hb1)
    have q1 := P1.out.c1
    have qf := P1.out.fz
    have B1 := hideP hb1
    clear hb1 K HP
    have E : Hid (Ps (w1.setCell ⟨p, 1, none⟩ (.int .i64 ((a + 1 : Nat) : Int))) p ao n cap (a + 1) o be ∧ w.grownBy (w1.setCell ⟨p, 1, none⟩ (.int .i64 ((a + 1 : Nat) : Int))) (some p)) := ⟨P1.out.at' (a + 1), grown_set B1.out (Nat.le_refl _) p 1 _⟩
    go_wp2_with fail
    go_ret
    exact ⟨rfl, E.out⟩
  · have hq : (t.tx.toList == text.toList) = false := by rw [ba_eq]; exact decide_eq_false h
    rw [decide_eq_false h, if_neg h]
    clear h
    go_enter Tryz.func57, Tryz.ntmps57
    go_wp2_with fail
    refine K.out.mono ?_
    rintro e w1 ⟨rfl, hb1⟩
    have E : Hid (Ps w1 p ao n cap a o be ∧ w.grownBy w1 (some p)) := ⟨HP.out.keep hb1, grown_none hb1 _⟩
    clear hb1 K HP
    go_wp2_with fail
    go_ret
    exact ⟨rfl, E.out⟩
namespace Pl
/-- impl's atFunction, of the token that is next -/
def atfV (t : Itk) : Bool := decide (t.k = 3) || decide (t.tx = ⟨#[64]⟩) || mgs.any (fun m => decide (m.t = t.tx.data.toList))
end Pl
set_option maxHeartbeats 4000000 in
/-- (*impl.parser).atFunction -/
theorem atFunction_any (l : List Pl.Itk) (p cap a o mb mo cp : Nat) (ao : Option Addr) (be : Bool) (w : World) (hl : l.length ≤ 1048576) (ha : a ≤ 1048590) (hM : Mt w mb mo cp) (hP : Ps w p ao l.length cap a o be) (hR : RdJ w.heap.size w ao l) :
    Calls Tryz.prog 93 #[.pointer (some ⟨p, 0, none⟩)] w fun e w' => e = .returned (.bool (Pl.atfV (Pl.tkAt l a))) ∧ Below w.heap.size w w' := by
  have K := hideP (look_at hl ha hP hR)
  have KM : Hid (∀ w', Below w.heap.size w w' → Calls Tryz.prog 74 #[.string (Pl.tkAt l a).tx] w' fun e w2 => e = .returned (.bool (Pl.mgs.any (fun m => decide (m.t = (Pl.tkAt l a).tx.data.toList)))) ∧ Below w'.heap.size w' w2) := fun w' hb => hasMeaning_any (Pl.tkAt l a).tx mb mo cp w' (hM.keep hb)
  have HV : Hid (Pl.atfV (Pl.tkAt l a) = (decide ((Pl.tkAt l a).k = 3) || decide ((Pl.tkAt l a).tx = ⟨#[64]⟩) || Pl.mgs.any (fun m => decide (m.t = (Pl.tkAt l a).tx.data.toList)))) := rfl
  clear hR hP hM
  generalize Pl.atfV (Pl.tkAt l a) = R at *
  generalize Pl.tkAt l a = t at *
  generalize Pl.mgs.any (fun m => decide (m.t = t.tx.data.toList)) = mm at *
  have hq : (t.tx.toList == [64]) = decide (t.tx = ⟨#[64]⟩) := by
    have := @ba_eq t.tx ⟨#[64]⟩
    rw [show (⟨#[64]⟩ : ByteArray).toList = [64] from by rw [ByteArray.toList_eq]] at this
    exact this
  generalize decide (t.tx = ⟨#[64]⟩) = d at *
  have BA : Hid (∀ w1 ob, Below w.heap.size w w1 → Below w.heap.size w (w1.alloc ob)) := fun w1 ob h => h.alloc h.size ob
  by_cases h3 : t.k = 3
  · have HR := hideP (show R = true by rw [HV.out]; simp [h3])
    rw [h3] at K
    clear HV h3
    go_enter Tryz.func93, Tryz.ntmps93
    go_wp2_with fail
    refine K.out.mono ?_
    rintro e w1 ⟨rfl, hb1⟩
    go_wp2_with fail
    go_ret
    exact ⟨by rw [HR.out]; rfl, BA.out _ _ hb1⟩
  have h3' : (t.k == 3) = false := by simpa using h3
  cases d
  · have HR := hideP (show R = mm by rw [HV.out]; simp [h3])
    clear HV h3
    go_enter Tryz.func93, Tryz.ntmps93
    go_wp2_with fail
    refine K.out.mono ?_
    rintro e w1 ⟨rfl, hb1⟩
    have B1 := hideP hb1
    clear hb1 K
    go_wp2_with fail
    refine (KM.out _ (BA.out _ _ B1.out)).mono ?_
    rintro e w2 ⟨rfl, hb2⟩
    have B2 := hideP ((BA.out _ _ B1.out).trans (hb2.mono (BA.out _ _ B1.out).size))
    clear hb2
    go_wp2_with fail
    go_ret
    exact ⟨by rw [HR.out]; rfl, B2.out⟩
  · have HR := hideP (show R = true by rw [HV.out]; simp)
    clear HV h3
    go_enter Tryz.func93, Tryz.ntmps93
    go_wp2_with fail
    refine K.out.mono ?_
    rintro e w1 ⟨rfl, hb1⟩
    go_wp2_with fail
    go_ret
    exact ⟨by rw [HR.out]; rfl, BA.out _ _ hb1⟩
end Go.Proofs.YthhfpcdbgndioaaGreatDoor
