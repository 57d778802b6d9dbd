import Derived.Test.YtbmkbplgncoapaaDoorRi
namespace Go.Proofs.YtbmkbplgncoapaaDoor
open Go.RowKit
set_option linter.unusedVariables false

/-- laws.szVerdictS -/
theorem szVerdictS_any (v : Value) (vs : List Pl.Vt) (w w0 : World) (B : Nat) (hm : vs.length ≤ 9223372036854775807) (h : RdV B w0 v vs) :
    Calls Tryd.prog 19 #[v, .int .i64 1048576] w fun e w' => ∃ r : Int, e = .returned (.int .i64 r) ∧ r ≤ 1048576 ∧ (r = -1 ∨ (0 ≤ r ∧ r = 1048576 - vs.length)) ∧ w' = w := by
  obtain ⟨ao, cap, rfl, _⟩ := h
  generalize vs.length = n at *
  by_cases g : (1048576 : Int) - (n : Int) < 0
  · go_enter Tryd.func19, Tryd.ntmps19
    go_wp2_with fail
    go_ret
    exact ⟨_, rfl, by omega, .inl rfl, rfl⟩
  · go_enter Tryd.func19, Tryd.ntmps19
    go_wp2_with fail
    go_ret
    exact ⟨_, rfl, by omega, .inr ⟨by omega, rfl⟩, rfl⟩

theorem eqVerdictS_same (v1 v2 : Value) (xs : List Pl.Vt) (w : World) (hl1 : xs.length ≤ 1048576) (h1 : RdV w.heap.size w v1 xs) (h2 : RdV w.heap.size w v2 xs) :
    Calls Tryd.prog 23 #[v1, v2] w fun e w' => e = .returned (.bool true) ∧ Below w.heap.size w w' := by
  have := eqVerdictS_any v1 v2 xs xs w hl1 hl1 h1 h2
  simpa using this

set_option maxRecDepth 100000 in
set_option maxHeartbeats 4000000 in
/-- laws.FnExactReport -/
theorem lawReport (id : ByteArray) (v : Value) (vs : List Pl.Vt) (w : World) (hid : id.size ≤ 9223372036854775807) (hm : vs.length ≤ 9223372036854775807) (ht : Tab w) (hk : Kw w) (h : RdV w.heap.size w v vs) :
    Calls Tryd.prog 5 #[.string id, v] w fun e w' => e = .returned (.bool true) ∧ Below w.heap.size w w' := by
  have H := hideP h
  have HT := hideP ht
  have HK := hideP hk
  have B0 := hideP (Below.refl w.heap.size w)
  have KZ := hideP (szVerdictS_any v vs w w w.heap.size hm h)
  clear h ht hk
  by_cases hlong : 1048576 < id.size
  · have hlong' : (1048576 : Int) < (id.size : Int) := by omega
    go_enter Tryd.func5, Tryd.ntmps5
    go_wp2_with fail
    go_ret
    exact ⟨rfl, B0.out⟩
  · have hlong' : ¬ (1048576 : Int) < (id.size : Int) := by omega
    have hi : id.size ≤ 1048576 := by omega
    clear hlong
    go_enter Tryd.func5, Tryd.ntmps5
    go_wp2_with fail
    refine KZ.out.mono ?_
    rintro e w' ⟨r, rfl, hr1, hr, rfl⟩
    clear KZ
    by_cases hneg : r < 0
    · go_wp2_with fail
      go_ret
      exact ⟨rfl, B0.out⟩
    · have L : vs.length ≤ 1048576 := by omega
      have RD : Hid (∀ W, Below w'.heap.size w' W → RdV W.heap.size W v vs) := fun W hW => (H.out.keep hW).up hW.size
      clear hr hr1 hm
      go_wp2_with fail
      refine (toVerdictS_any v vs _ L (RD.out _ B0.out)).mono ?_
      rintro e w2 ⟨rfl, o2, hb2⟩
      have B2 := hideP hb2
      have R2 := hideP (rdV_of_own o2)
      clear hb2 o2
      go_wp2_with fail
      refine (specReport_any id _ vs _ hi L R2.out).mono ?_
      rintro e w3 ⟨rfl, hb3⟩
      have B3 := hideP (B2.out.trans (hb3.mono B2.out.size))
      clear hb3 R2 B2
      go_wp2_with fail
      refine (toVerdictS_any v vs _ L (RD.out _ B3.out)).mono ?_
      rintro e w4 ⟨rfl, o4, hb4⟩
      have B4 := hideP (B3.out.trans (hb4.mono B3.out.size))
      have R4 := hideP (rdV_of_own o4)
      clear hb4 o4 B3
      go_wp2_with fail
      refine (implReport_any id _ vs _ hi L (HT.out.keep B4.out) (HK.out.keep B4.out) R4.out).mono ?_
      rintro e w5 ⟨rfl, hb5⟩
      have B5 := hideP (B4.out.trans (hb5.mono B4.out.size))
      have R5 := hideP ((R4.out.keep hb5).up hb5.size)
      clear hb5 B4 R4
      generalize Pl.rep id vs = tx at *
      generalize (Pl.idB id && Pl.vsB vs) = q at *
      go_wp2_with fail
      refine (toVerdictS_any v vs _ L (RD.out _ B5.out)).mono ?_
      rintro e w6 ⟨rfl, o6, hb6⟩
      have B6 := hideP (B5.out.trans (hb6.mono B5.out.size))
      have R6 := hideP (rdV_of_own o6)
      have R5' := hideP ((R5.out.keep hb6).up hb6.size)
      clear hb6 o6 B5 R5
      go_wp2_with fail
      refine (eqVerdictS_same _ _ vs _ L R5'.out R6.out).mono ?_
      rintro e w7 ⟨rfl, hb7⟩
      have B7 := hideP (B6.out.trans (hb7.mono B6.out.size))
      clear hb7
      go_wp2_with fail
      go_ret
      exact ⟨rfl, B7.out⟩

end Go.Proofs.YtbmkbplgncoapaaDoor
