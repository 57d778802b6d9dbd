import Derived.Test.YtbmkbplgncoapaaDoorO6
namespace Go.Proofs.YtbmkbplgncoapaaDoor
open Go.RowKit Go.Sort
set_option linter.unusedVariables false

set_option maxRecDepth 100000 in
set_option maxHeartbeats 4000000 in
/-- laws.FnExactLogEntry -/
theorem lawEntry (id : ByteArray) (v : Value) (os : List Pl.Ot) (w : World) (hid : id.size ≤ 9223372036854775807) (hm : os.length ≤ 9223372036854775807) (hms : ∀ o ∈ os, o.sh.length ≤ 9223372036854775807 ∧ o.da.length ≤ 9223372036854775807) (ht : Tab w) (h : RdO w.heap.size w v os) :
    Calls Tryd.prog 7 #[.string id, v] w fun e w' => e = .returned (.bool true) ∧ Below w.heap.size w w' := by
  have H := hideP h
  have HT := hideP ht
  have B0 := hideP (Below.refl w.heap.size w)
  have KZ := hideP (szOutcomeS_any v os w hm hms h)
  clear h ht hms
  by_cases hlong : 1048576 < id.size
  · have hlong' : (1048576 : Int) < (id.size : Int) := by omega
    go_enter Tryd.func7, Tryd.ntmps7
    go_wp2_with fail
    go_ret
    exact ⟨rfl, B0.out⟩
  · have hlong' : ¬ (1048576 : Int) < (id.size : Int) := by omega
    have hi : id.size ≤ 1048576 := by omega
    clear hlong
    go_enter Tryd.func7, Tryd.ntmps7
    go_wp2_with fail
    refine KZ.out.mono ?_
    rintro e w1 ⟨r, rfl, hr1, hr, hb1⟩
    have B1 := hideP hb1
    clear KZ hb1
    by_cases hneg : r < 0
    · go_wp2_with fail
      go_ret
      exact ⟨rfl, B1.out⟩
    · obtain ⟨L, HBD⟩ : os.length ≤ 1048576 ∧ Hid (∀ o ∈ os, o.bd) := by
        rcases hr with h | ⟨h1, h2⟩
        · omega
        · exact ⟨h1, h2⟩
      have RD : Hid (∀ W, Below w.heap.size w W → RdO W.heap.size W v os) := fun W hW => (H.out.keep hW).up hW.size
      clear hr hr1 hm
      go_wp2_with fail
      refine (toOutcomeS_any v os _ L HBD.out (RD.out _ B1.out)).mono ?_
      rintro e w2 ⟨rfl, o2, hb2⟩
      have B2 := hideP (B1.out.trans (hb2.mono B1.out.size))
      have R2 := hideP o2
      clear hb2 o2 B1
      go_wp2_with fail
      refine (specEntry_any id _ os _ hi L HBD.out R2.out).mono ?_
      rintro e w3 ⟨rfl, hb3⟩
      have B3 := hideP (B2.out.trans (hb3.mono B2.out.size))
      clear hb3 R2 B2
      go_wp2_with fail
      refine (toOutcomeS_any v os _ L HBD.out (RD.out _ B3.out)).mono ?_
      rintro e w4 ⟨rfl, o4, hb4⟩
      have B4 := hideP (B3.out.trans (hb4.mono B3.out.size))
      have R4 := hideP o4
      clear hb4 o4 B3
      go_wp2_with fail
      refine (implEntry_any id _ os _ hi L HBD.out (HT.out.keep B4.out) R4.out).mono ?_
      rintro e w5 ⟨rfl, hb5⟩
      have B5 := hideP (B4.out.trans (hb5.mono B4.out.size))
      have R5 := hideP ((R4.out.keep hb5).up hb5.size)
      clear hb5 B4 R4
      generalize Pl.ent id os = tx at *
      generalize (Pl.idB id && Pl.osB os) = q at *
      go_wp2_with fail
      refine (toOutcomeS_any v os _ L HBD.out (RD.out _ B5.out)).mono ?_
      rintro e w6 ⟨rfl, o6, hb6⟩
      have B6 := hideP (B5.out.trans (hb6.mono B5.out.size))
      have R6 := hideP o6
      have R5' := hideP ((R5.out.keep hb6).up hb6.size)
      clear hb6 o6 B5 R5
      go_wp2_with fail
      refine (eqOutcomeS_same _ _ os _ L HBD.out R5'.out R6.out).mono ?_
      rintro e w7 ⟨rfl, hb7⟩
      have B7 := hideP (B6.out.trans (hb7.mono B6.out.size))
      clear hb7
      go_wp2_with fail
      go_ret
      exact ⟨rfl, B7.out⟩

end Go.Proofs.YtbmkbplgncoapaaDoor
