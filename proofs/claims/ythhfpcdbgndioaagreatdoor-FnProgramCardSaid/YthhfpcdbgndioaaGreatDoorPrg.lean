import Derived.Test.YthhfpcdbgndioaaGreatDoorGtx
import Derived.Test.YthhfpcdbgndioaaGreatDoorSu2a
import Derived.Test.YthhfpcdbgndioaaGreatDoorSu3a
namespace Go.Proofs.YthhfpcdbgndioaaGreatDoor
open Go.RowKit
set_option linter.unusedVariables false
set_option maxRecDepth 100000
theorem Pl.wk_vals (l : List UInt8) : Pl.wk l = 0 ∨ Pl.wk l = 2 ∨ Pl.wk l = 3 ∨ Pl.wk l = 4 := by
  unfold Pl.wk
  split
  · exact .inl rfl
  split
  · exact .inl rfl
  split
  · exact .inl rfl
  split
  · exact .inl rfl
  split
  · exact .inr (.inr (.inl rfl))
  split
  · exact .inr (.inr (.inr rfl))
  · exact .inr (.inl rfl)
/-- what stmtText says -/
def StxPost (s : Pl.Tv) (w : World) (e : Ending) (w' : World) : Prop :=
  ∃ str, e = .returned (.tuple #[.string str, .bool (Pl.stx Pl.nt s).isSome]) ∧ (∀ x, Pl.stx Pl.nt s = some x → str = Pl.ba x) ∧ Below w.heap.size w w'
theorem stx_no {s : Pl.Tv} {w w' : World} {str : ByteArray} (h : Pl.stx Pl.nt s = none) (hb : Below w.heap.size w w') : StxPost s w (.returned (.tuple #[.string str, .bool false])) w' := ⟨str, by rw [h]; rfl, fun x hx => (by rw [h] at hx; cases hx), hb⟩
theorem stx_yes {s : Pl.Tv} {w w' : World} {str : ByteArray} {x : List UInt8} (h : Pl.stx Pl.nt s = some x) (hs : str = Pl.ba x) (hb : Below w.heap.size w w') : StxPost s w (.returned (.tuple #[.string str, .bool true])) w' := ⟨str, by rw [h]; rfl, fun y hy => (by rw [h] at hy; rw [hs, Option.some.inj hy]), hb⟩
set_option maxHeartbeats 16000000 in
/-- impl.stmtText -/
theorem stmtText_any (s : Pl.Tv) (a1 a2 : Option Addr) (c1 c2 mb mo cp : Nat) (hsm : Pl.SmallT s) (hz : s.gs.length + Pl.gsum s.gs s.gs.length ≤ 1048576) (w : World) (he : Ev w mb mo cp) (hc : RdS w.heap.size w a1 s.code) (hg : RdG w.heap.size w a2 s.gs) :
    Calls Tryz.prog 25 #[.agg #[.int .i64 s.k, .string (Pl.ba s.nm), .slice a1 s.code.length c1, .slice a2 s.gs.length c2]] w (StxPost s w) := by
  have HB : Hid (∀ o, Below w.heap.size w (w.alloc o)) := fun o => (Below.refl _ _).alloc (Nat.le_refl _) _
  have K1 : Hid (∀ w', Below w.heap.size w w' → Calls Tryz.prog 45 #[.slice a1 s.code.length c1] w' fun e w2 => e = .returned (.tuple #[.string (Pl.ba ((Pl.xt Pl.nt s.code).getD [])), .bool (Pl.xt Pl.nt s.code).isSome]) ∧ Below w'.heap.size w' w2) := fun w' h => exprText_any s.code a1 c1 mb mo cp hsm.code w' (he.keep h) ((hc.keep h).up h.size)
  have K2 : Hid (∀ w', Below w.heap.size w w' → Calls Tryz.prog 46 #[.slice a2 s.gs.length c2] w' fun e w2 => e = .returned (.tuple #[.string (Pl.ba ((Pl.gtx Pl.nt s.gs).getD [])), .bool (Pl.gtx Pl.nt s.gs).isSome]) ∧ Below w'.heap.size w' w2) := fun w' h => guardsText_any s.gs a2 c2 mb mo cp hsm.gs hz w' (he.keep h) ((hg.keep h).up h.size)
  have KW : Hid (∀ w', Below w.heap.size w w' → Calls Tryz.prog 47 #[.string (Pl.ba s.nm)] w' fun e w2 => e = .returned (.int .i64 (Pl.wk s.nm)) ∧ Below w'.heap.size w' w2) := fun w' h => wordKind_any (Pl.ba s.nm) mb mo cp w' (he.keep h).mt (by rw [Pl.ba_size]; have := hsm.nm; omega)
  have hqn := ba_beq s.nm
  have hqs := self_beq s.nm
  have HL1 : Hid (∀ x, Pl.xt Pl.nt s.code = some x → x.length ≤ 50000000) := fun x hx => by have := Pl.xt_len hx; have := hsm.code.sz; omega
  have HL2 : Hid (∀ x, Pl.gtx Pl.nt s.gs = some x → x.length ≤ 50000000) := fun x hx => by have := Pl.gtx_len hx; omega
  have hnl := hsm.nm
  have HF : Hid (∀ e g, Pl.xt Pl.nt s.code = some e → Pl.gtx Pl.nt s.gs = some g → Pl.stx Pl.nt s = if s.k = 1 then (if s.nm = [] ∧ s.gs.length = 0 then some e else none) else if s.k = 2 then (if Pl.wk s.nm = 2 ∧ s.gs.length = 0 then some (s.nm ++ [32, 58, 61, 32] ++ e) else none) else if s.k = 3 then (if Pl.wk s.nm = 3 ∧ s.nm ≠ Pl.selfW then some (s.nm ++ [32, 58, 61, 32, 123] ++ g ++ e ++ [125]) else none) else none) := fun e g h1 h2 => by
    unfold Pl.stx
    rw [h1, h2]
    have e1 : (s.gs = []) = (s.gs.length = 0) := by rw [List.length_eq_zero_iff]
    simp only [e1]
  have HF1 : Hid (Pl.xt Pl.nt s.code = none → Pl.stx Pl.nt s = none) := fun h => by unfold Pl.stx; rw [h]
  have HF2 : Hid (Pl.gtx Pl.nt s.gs = none → Pl.stx Pl.nt s = none) := fun h => by unfold Pl.stx; rw [h]; cases Pl.xt Pl.nt s.code <;> rfl
  have C : Hid (∀ (w1 w' : World) (j : Nat) (v : Value), Below w1.heap.size w1 w' → w.heap.size < w1.heap.size → w1.cell? ⟨w.heap.size, j, none⟩ = some v → w'.cell? ⟨w.heap.size, j, none⟩ = some v) := fun w1 w' j v hb h1 h => (hb.cell (p := ⟨w.heap.size, j, none⟩) h1).trans h
  have FN := hideP (fun (w' : World) (str : ByteArray) (h : Pl.stx Pl.nt s = none) (hb : Below w.heap.size w w') => stx_no (str := str) h hb)
  have FY := hideP (fun (w' : World) (str : ByteArray) (x : List UInt8) (h : Pl.stx Pl.nt s = some x) (hs : str = Pl.ba x) (hb : Below w.heap.size w w') => stx_yes h hs hb)
  have hgl : s.gs.length ≤ 1048576 := by omega
  clear he hc hg hsm hz
  generalize hxc : Pl.xt Pl.nt s.code = xc at *
  generalize hxg : Pl.gtx Pl.nt s.gs = xg at *
  clear hxc hxg
  have HWV := hideP (Pl.wk_vals s.nm)
  generalize Pl.wk s.nm = z at *
  generalize hG : s.gs.length = G at *
  clear hG
  generalize s.code.length = cl at *
  generalize s.k = kk at *
  generalize hnn : s.nm = nml at *
  clear hnn
  have hba : (Pl.ba nml).size = nml.length := rfl
  generalize hdn : decide (nml = []) = n0 at *
  generalize hds : decide (nml = Pl.selfW) = ns at *
  have HDN := hideP hdn
  have HDS := hideP hds
  clear hdn hds
  have HEX : Hid (∀ (x : ByteArray) (l : List UInt8), x.data.toList = l → x = Pl.ba l) := fun x l h => by rw [Pl.ba_iff]; exact h
  cases xc with
  | none =>
    have HR := hideP (HF1.out rfl)
    simp only [Option.getD_none, Option.isSome_none] at K1
    generalize Pl.ba (xg.getD []) = sg at *
    generalize xg.isSome = og at *
    generalize Pl.ba nml = nm at *
    clear HF HF1 HF2 HL1 HL2
    go_enter Tryz.func25, Tryz.ntmps25
    go_wp2_with fail
    refine (K1.out _ (HB.out _)).mono ?_
    rintro e' w2 ⟨rfl, hb2⟩
    have d0 := C.out _ _ 0 _ hb2 (by simp) (by simp [go_sem]; rfl)
    have d1 := C.out _ _ 1 _ hb2 (by simp) (by simp [go_sem]; rfl)
    have d3 := C.out _ _ 3 _ hb2 (by simp) (by simp [go_sem]; rfl)
    have B2 := hideP ((HB.out _).trans (hb2.mono (by simp)))
    have z2 : w.heap.size < w2.heap.size := Nat.lt_of_lt_of_le (by simp) hb2.size
    clear hb2
    go_wp2_with fail
    refine (K2.out _ B2.out).mono ?_
    rintro e' w3 ⟨rfl, hb3⟩
    have e0 := C.out _ _ 0 _ hb3 z2 d0
    have e1 := C.out _ _ 1 _ hb3 z2 d1
    have e3 := C.out _ _ 3 _ hb3 z2 d3
    have B3 := hideP (B2.out.trans (hb3.mono B2.out.size))
    have z3 : w.heap.size < w3.heap.size := Nat.lt_of_lt_of_le z2 hb3.size
    clear hb3 d0 d1 d3
    go_wp2_with fail
    go_ret2
    exact FN.out _ _ HR.out B3.out
  | some xe =>
    have hle := HL1.out xe rfl
    simp only [Option.getD_some, Option.isSome_some] at K1
    cases xg with
    | none =>
      have HR := hideP (HF2.out rfl)
      simp only [Option.getD_none, Option.isSome_none] at K2
      generalize Pl.ba xe = se at *
      generalize Pl.ba nml = nm at *
      clear HF HF1 HF2 HL1 HL2
      go_enter Tryz.func25, Tryz.ntmps25
      go_wp2_with fail
      refine (K1.out _ (HB.out _)).mono ?_
      rintro e' w2 ⟨rfl, hb2⟩
      have d0 := C.out _ _ 0 _ hb2 (by simp) (by simp [go_sem]; rfl)
      have d1 := C.out _ _ 1 _ hb2 (by simp) (by simp [go_sem]; rfl)
      have d3 := C.out _ _ 3 _ hb2 (by simp) (by simp [go_sem]; rfl)
      have B2 := hideP ((HB.out _).trans (hb2.mono (by simp)))
      have z2 : w.heap.size < w2.heap.size := Nat.lt_of_lt_of_le (by simp) hb2.size
      clear hb2
      go_wp2_with fail
      refine (K2.out _ B2.out).mono ?_
      rintro e' w3 ⟨rfl, hb3⟩
      have e0 := C.out _ _ 0 _ hb3 z2 d0
      have e1 := C.out _ _ 1 _ hb3 z2 d1
      have e3 := C.out _ _ 3 _ hb3 z2 d3
      have B3 := hideP (B2.out.trans (hb3.mono B2.out.size))
      have z3 : w.heap.size < w3.heap.size := Nat.lt_of_lt_of_le z2 hb3.size
      clear hb3 d0 d1 d3
      go_wp2_with fail
      go_ret2
      exact FN.out _ _ HR.out B3.out
    | some xgg =>
      have hlg := HL2.out xgg rfl
      simp only [Option.getD_some, Option.isSome_some] at K2
      have HS := hideP (HF.out xe xgg rfl rfl)
      clear HF HF1 HF2 HL1 HL2
      have hbe : (Pl.ba xe).size = xe.length := rfl
      have hbg : (Pl.ba xgg).size = xgg.length := rfl
      have m1 : ¬ (9223372036854775807 < (Pl.ba nml).size + 4) := by omega
      have m2 : ¬ (9223372036854775807 < (Pl.ba nml).size + 4 + (Pl.ba xe).size) := by omega
      have m3 : ¬ (9223372036854775807 < (Pl.ba nml).size + 5) := by omega
      have m4 : ¬ (9223372036854775807 < (Pl.ba nml).size + 5 + (Pl.ba xgg).size) := by omega
      have m5 : ¬ (9223372036854775807 < (Pl.ba nml).size + 5 + (Pl.ba xgg).size + (Pl.ba xe).size) := by omega
      have m6 : ¬ (9223372036854775807 < (Pl.ba nml).size + 5 + (Pl.ba xgg).size + (Pl.ba xe).size + 1) := by omega
      have X2 : Hid (Pl.ba nml ++ ⟨#[32, 58, 61, 32]⟩ ++ Pl.ba xe = Pl.ba (nml ++ [32, 58, 61, 32] ++ xe)) := HEX.out _ _ (by simp [Pl.ba])
      have X3 : Hid (Pl.ba nml ++ ⟨#[32, 58, 61, 32, 123]⟩ ++ Pl.ba xgg ++ Pl.ba xe ++ ⟨#[125]⟩ = Pl.ba (nml ++ [32, 58, 61, 32, 123] ++ xgg ++ xe ++ [125])) := HEX.out _ _ (by simp [Pl.ba])
      have X1 : Hid (Pl.ba xe = Pl.ba xe) := rfl
      have HLL : Hid ((Pl.ba nml).size ≤ 100000000 ∧ (Pl.ba xe).size ≤ 100000000 ∧ (Pl.ba xgg).size ≤ 100000000) := ⟨by omega, by omega, by omega⟩
      clear hbe hbg hba hle hlg hnl HEX
      by_cases k1 : kk = 1
      · subst k1
        have HS1 := hideP (show Pl.stx Pl.nt s = if nml = [] ∧ G = 0 then some xe else none by rw [HS.out, if_pos rfl])
        clear HS X2 X3 KW
        cases n0
        · have HR := hideP (show Pl.stx Pl.nt s = none by rw [HS1.out, if_neg (fun h => of_decide_eq_false HDN.out h.1)])
          clear HS1 HDN HDS
          generalize Pl.ba xgg = sg at *
          generalize Pl.ba xe = se at *
          generalize Pl.ba nml = nm at *
          go_enter Tryz.func25, Tryz.ntmps25
          go_wp2_with fail
          refine (K1.out _ (HB.out _)).mono ?_
          rintro e' w2 ⟨rfl, hb2⟩
          have d0 := C.out _ _ 0 _ hb2 (by simp) (by simp [go_sem]; rfl)
          have d1 := C.out _ _ 1 _ hb2 (by simp) (by simp [go_sem]; rfl)
          have d3 := C.out _ _ 3 _ hb2 (by simp) (by simp [go_sem]; rfl)
          have B2 := hideP ((HB.out _).trans (hb2.mono (by simp)))
          have z2 : w.heap.size < w2.heap.size := Nat.lt_of_lt_of_le (by simp) hb2.size
          clear hb2
          go_wp2_with fail
          refine (K2.out _ B2.out).mono ?_
          rintro e' w3 ⟨rfl, hb3⟩
          have e0 := C.out _ _ 0 _ hb3 z2 d0
          have e1 := C.out _ _ 1 _ hb3 z2 d1
          have e3 := C.out _ _ 3 _ hb3 z2 d3
          have B3 := hideP (B2.out.trans (hb3.mono B2.out.size))
          have z3 : w.heap.size < w3.heap.size := Nat.lt_of_lt_of_le z2 hb3.size
          clear hb3 d0 d1 d3
          go_wp2_with fail
          go_quiet (fail)
          go_wp2
          go_ret2
          exact FN.out _ _ HR.out (below_drewN B3.out _)
        · by_cases hG0 : G = 0
          · subst hG0
            have HR := hideP (show Pl.stx Pl.nt s = some xe by rw [HS1.out, if_pos ⟨of_decide_eq_true HDN.out, rfl⟩])
            have FYY := hideP (fun w' hb => FY.out w' (Pl.ba xe) xe HR.out rfl hb)
            clear HS1 HDN HDS FY
            generalize Pl.ba xgg = sg at *
            generalize Pl.ba xe = se at *
            generalize Pl.ba nml = nm at *
            go_enter Tryz.func25, Tryz.ntmps25
            go_wp2_with fail
            refine (K1.out _ (HB.out _)).mono ?_
            rintro e' w2 ⟨rfl, hb2⟩
            have d0 := C.out _ _ 0 _ hb2 (by simp) (by simp [go_sem]; rfl)
            have d1 := C.out _ _ 1 _ hb2 (by simp) (by simp [go_sem]; rfl)
            have d3 := C.out _ _ 3 _ hb2 (by simp) (by simp [go_sem]; rfl)
            have B2 := hideP ((HB.out _).trans (hb2.mono (by simp)))
            have z2 : w.heap.size < w2.heap.size := Nat.lt_of_lt_of_le (by simp) hb2.size
            clear hb2
            go_wp2_with fail
            refine (K2.out _ B2.out).mono ?_
            rintro e' w3 ⟨rfl, hb3⟩
            have e0 := C.out _ _ 0 _ hb3 z2 d0
            have e1 := C.out _ _ 1 _ hb3 z2 d1
            have e3 := C.out _ _ 3 _ hb3 z2 d3
            have B3 := hideP (B2.out.trans (hb3.mono B2.out.size))
            have z3 : w.heap.size < w3.heap.size := Nat.lt_of_lt_of_le z2 hb3.size
            clear hb3 d0 d1 d3
            go_wp2_with fail
            go_quiet (fail)
            go_wp2
            go_ret2
            exact FYY.out _ (below_drewN B3.out _)
          · have hG1 : ((G : Int) == 0) = false := by simp [hG0]
            have HR := hideP (show Pl.stx Pl.nt s = none by rw [HS1.out, if_neg (fun h => hG0 h.2)])
            clear HS1 HDN HDS hG0
            generalize Pl.ba xgg = sg at *
            generalize Pl.ba xe = se at *
            generalize Pl.ba nml = nm at *
            go_enter Tryz.func25, Tryz.ntmps25
            go_wp2_with fail
            refine (K1.out _ (HB.out _)).mono ?_
            rintro e' w2 ⟨rfl, hb2⟩
            have d0 := C.out _ _ 0 _ hb2 (by simp) (by simp [go_sem]; rfl)
            have d1 := C.out _ _ 1 _ hb2 (by simp) (by simp [go_sem]; rfl)
            have d3 := C.out _ _ 3 _ hb2 (by simp) (by simp [go_sem]; rfl)
            have B2 := hideP ((HB.out _).trans (hb2.mono (by simp)))
            have z2 : w.heap.size < w2.heap.size := Nat.lt_of_lt_of_le (by simp) hb2.size
            clear hb2
            go_wp2_with fail
            refine (K2.out _ B2.out).mono ?_
            rintro e' w3 ⟨rfl, hb3⟩
            have e0 := C.out _ _ 0 _ hb3 z2 d0
            have e1 := C.out _ _ 1 _ hb3 z2 d1
            have e3 := C.out _ _ 3 _ hb3 z2 d3
            have B3 := hideP (B2.out.trans (hb3.mono B2.out.size))
            have z3 : w.heap.size < w3.heap.size := Nat.lt_of_lt_of_le z2 hb3.size
            clear hb3 d0 d1 d3
            go_wp2_with fail
            go_quiet (fail)
            go_wp2
            go_ret2
            exact FN.out _ _ HR.out (below_drewN B3.out _)
      have f1 : (kk == 1) = false := by simp [k1]
      by_cases k2 : kk = 2
      · subst k2
        clear f1 k1
        have HS1 := hideP (show Pl.stx Pl.nt s = if z = 2 ∧ G = 0 then some (nml ++ [32, 58, 61, 32] ++ xe) else none by rw [HS.out, if_neg (by decide), if_pos rfl])
        clear HS
        by_cases hz : z = 2
        · refine (stt_2a (Pl.ba nml) (Pl.ba xe) (Pl.ba xgg) a1 a2 cl c1 G c2 z w hz HLL.out.1 HLL.out.2.1 HLL.out.2.2 hgl K1.out K2.out KW.out).mono ?_
          rintro e' w' ⟨rfl, hb⟩
          by_cases hG0 : G = 0
          · rw [show ((G : Int) == 0) = true by simp [hG0]]
            exact FY.out w' _ _ (by rw [HS1.out, if_pos ⟨hz, hG0⟩]) X2.out hb
          · rw [show ((G : Int) == 0) = false by simp [hG0]]
            exact FN.out w' _ (by rw [HS1.out, if_neg (fun h => hG0 h.2)]) hb
        · refine (stt_2b (Pl.ba nml) (Pl.ba xe) (Pl.ba xgg) a1 a2 cl c1 G c2 z w hz HLL.out.1 HLL.out.2.1 HLL.out.2.2 hgl K1.out K2.out KW.out).mono ?_
          rintro e' w' ⟨rfl, hb⟩
          exact FN.out w' _ (by rw [HS1.out, if_neg (fun h => hz h.1)]) hb
      have f2 : (kk == 2) = false := by simp [k2]
      by_cases k3 : kk = 3
      · subst k3
        clear f1 k1 f2 k2
        have HS1 := hideP (show Pl.stx Pl.nt s = if z = 3 ∧ nml ≠ Pl.selfW then some (nml ++ [32, 58, 61, 32, 123] ++ xgg ++ xe ++ [125]) else none by rw [HS.out, if_neg (by decide), if_neg (by decide), if_pos rfl])
        clear HS
        by_cases hz : z = 3
        · refine (stt_3a (Pl.ba nml) (Pl.ba xe) (Pl.ba xgg) a1 a2 cl c1 G c2 z ns w hz hqs HLL.out.1 HLL.out.2.1 HLL.out.2.2 hgl K1.out K2.out KW.out).mono ?_
          rintro e' w' ⟨rfl, hb⟩
          cases ns
          · exact FY.out w' _ _ (by rw [HS1.out, if_pos ⟨hz, of_decide_eq_false HDS.out⟩]) X3.out hb
          · exact FN.out w' _ (by rw [HS1.out, if_neg (fun h => h.2 (of_decide_eq_true HDS.out))]) hb
        · refine (stt_3b (Pl.ba nml) (Pl.ba xe) (Pl.ba xgg) a1 a2 cl c1 G c2 z w hz HLL.out.1 HLL.out.2.1 HLL.out.2.2 hgl K1.out K2.out KW.out).mono ?_
          rintro e' w' ⟨rfl, hb⟩
          exact FN.out w' _ (by rw [HS1.out, if_neg (fun h => hz h.1)]) hb
      have f3 : (kk == 3) = false := by simp [k3]
      have HR := hideP (show Pl.stx Pl.nt s = none by rw [HS.out, if_neg k1, if_neg k2, if_neg k3])
      clear HS k1 k2 k3 HDN HDS X2 X3
      generalize Pl.ba xgg = sg at *
      generalize Pl.ba xe = se at *
      generalize Pl.ba nml = nm at *
      go_enter Tryz.func25, Tryz.ntmps25
      go_wp2_with fail
      refine (K1.out _ (HB.out _)).mono ?_
      rintro e' w2 ⟨rfl, hb2⟩
      have d0 := C.out _ _ 0 _ hb2 (by simp) (by simp [go_sem]; rfl)
      have d1 := C.out _ _ 1 _ hb2 (by simp) (by simp [go_sem]; rfl)
      have d3 := C.out _ _ 3 _ hb2 (by simp) (by simp [go_sem]; rfl)
      have B2 := hideP ((HB.out _).trans (hb2.mono (by simp)))
      have z2 : w.heap.size < w2.heap.size := Nat.lt_of_lt_of_le (by simp) hb2.size
      clear hb2
      go_wp2_with fail
      refine (K2.out _ B2.out).mono ?_
      rintro e' w3 ⟨rfl, hb3⟩
      have e0 := C.out _ _ 0 _ hb3 z2 d0
      have e1 := C.out _ _ 1 _ hb3 z2 d1
      have e3 := C.out _ _ 3 _ hb3 z2 d3
      have B3 := hideP (B2.out.trans (hb3.mono B2.out.size))
      have z3 : w.heap.size < w3.heap.size := Nat.lt_of_lt_of_le z2 hb3.size
      clear hb3 d0 d1 d3
      go_wp2_with fail
      go_ret2
      exact FN.out _ _ HR.out B3.out
set_option maxHeartbeats 8000000 in
/-- impl.itemsFit -/
theorem itemsFit_any (p : List Pl.Tv) (ao : Option Addr) (cap : Nat) (hsm : Pl.SmallP p) (w : World) (hR : RdP w.heap.size w ao p) :
    Calls Tryz.prog 24 #[.slice ao p.length cap] w fun e w' => e = .returned (.bool (decide (Pl.psz p ≤ 16000))) ∧ Below w.heap.size w w' := by
  have HG : Hid (∀ k, k < p.length → ∃ s b off, p[k]? = some s ∧ s ∈ p ∧ ao = some ⟨b, off, none⟩ ∧ b < w.heap.size ∧ ∃ a1 a2 c1 c2, ∀ w', Below w.heap.size w w' → Sm w.heap.size w' b (off + k * 4) s a1 a2 c1 c2) := fun k hk => by
    rcases hR with rfl | ⟨b, off, hb, rfl, hc⟩
    · cases hk
    · obtain ⟨a1, a2, c1, c2, h⟩ := hc k p[k] (List.getElem?_eq_getElem hk)
      exact ⟨p[k], b, off, List.getElem?_eq_getElem hk, List.getElem_mem hk, rfl, hb, a1, a2, c1, c2, fun w' hw => h.keep hb hw⟩
  have HS : Hid (∀ k s, p[k]? = some s → Pl.psum p (k + 1) = Pl.psum p k + Pl.ssz s) := fun k s => Pl.psum_succ
  have HM : Hid (∀ k, Pl.psum p k ≤ Pl.psum p p.length) := Pl.psum_le p
  have HZ : Hid (∀ s ∈ p, Pl.ssz s ≤ 1048576 ∧ Pl.csz s.code ≤ 1048576 ∧ ∀ g ∈ s.gs, Pl.csz g.test ≤ 1048576 ∧ Pl.csz g.thn ≤ 1048576) := fun s hs => by
    have h1 : Pl.ssz s ≤ Pl.psz p := by
      have : Pl.ssz s ≤ (p.map Pl.ssz).sum := by
        clear HG HS HM hR hsm
        induction p with
        | nil => cases hs
        | cons x p ih =>
          rw [List.map_cons, List.sum_cons]
          rcases List.mem_cons.1 hs with rfl | h
          · omega
          · have := ih h; omega
      unfold Pl.psz
      omega
    have h2 := hsm.sz
    exact ⟨by omega, (hsm.st s hs).code.sz, fun g hg => ⟨((hsm.st s hs).gs g hg).1.sz, ((hsm.st s hs).gs g hg).2.sz⟩⟩
  have E0 := hideP (Pl.psz_eq p)
  have hl := hsm.sz
  rw [E0.out] at hl
  rw [E0.out]
  clear E0 hR hsm
  have H0 : Hid (Pl.psum p 0 = 0) := rfl
  generalize hL : p.length = L at *
  clear hL
  generalize hT : Pl.psum p L = T at *
  have HT := hideP hT
  clear hT
  go_enter Tryz.func24, Tryz.ntmps24
  go_wp2
  go_loopw [3, 4] (fun u v wr => ∃ (k : Nat) (r : Int), k ≤ L ∧ v = .int .i64 k ∧ u = .int .i64 r ∧ (-5000000 ≤ r ∧ r ≤ 16000) ∧ Hid ((0 ≤ (16000 : Int) - L - (Pl.psum p k : Nat) → r = 16000 - L - (Pl.psum p k : Nat)) ∧ ((16000 : Int) - L - (Pl.psum p k : Nat) < 0 → r < 0)) ∧ Hid (Below w.heap.size w wr)) (fun _ v _ => L - (intOf v).toNat)
  case atStart => exact ⟨0, _, Nat.zero_le _, rfl, rfl, by omega, ⟨fun _ => by rw [H0.out]; simp, fun h => by rw [H0.out] at h; simp at h; omega⟩, Below.refl _ _⟩
  case round =>
    rename World => wo
    obtain ⟨k, r, hk, rfl, rfl, ⟨hr1, hr2⟩, HV, BB⟩ := hrel
    have M0 := HM.out k
    by_cases hr0 : 0 ≤ r
    · by_cases hlt : k < L
      · obtain ⟨s, b, off, hs, hm, rfl, hb, a1, a2, c1, c2, hsm⟩ := HG.out k hlt
        obtain ⟨d0, d1, d2, d3, rc, rg⟩ := hsm _ BB.out
        obtain ⟨z1, z2, z3⟩ := HZ.out s hm
        have N := hideP (HS.out k s hs)
        have M1 := HM.out (k + 1)
        have ESZ := Pl.ssz_eq s
        have SP := hideP (@Pl.lbF_spec r s.code)
        have K : Hid (∀ m, Calls Tryz.prog 44 #[.int .i64 r, .slice a1 s.code.length c1] (wo.drewN m) fun e w' => e = .returned (.int .i64 (Pl.lbF r s.code)) ∧ w' = wo.drewN m) := fun m => leftBehind_fx r s.code a1 c1 w.heap.size (by omega) (by omega) z2 (wo.drewN m) (rc.keep (below_drewN (Below.refl _ _) m))
        have HRG : Hid (∀ w', Below w.heap.size wo w' → RdG w.heap.size w' a2 s.gs) := fun w' h => rg.keep h
        have HD3 : Hid (∀ w', Below w.heap.size wo w' → w'.cell? ⟨b, off + k * 4 + 3, none⟩ = some (.slice a2 s.gs.length c2)) := fun w' h => (h.cell (p := ⟨b, off + k * 4 + 3, none⟩) hb).trans d3
        have HGG : Hid (∀ j, j < s.gs.length → ∃ g, s.gs[j]? = some g ∧ g ∈ s.gs ∧ s.gs ≠ []) := fun j hj => ⟨s.gs[j], List.getElem?_eq_getElem hj, List.getElem_mem hj, fun e => by rw [e] at hj; cases hj⟩
        have HGS : Hid (∀ j g, s.gs[j]? = some g → Pl.gsum s.gs (j + 1) = Pl.gsum s.gs j + Pl.gsz g) := fun j g => Pl.gsum_succ
        have HGM : Hid (∀ j, Pl.gsum s.gs j ≤ Pl.gsum s.gs s.gs.length) := Pl.gsum_le s.gs
        have HG0 : Hid (Pl.gsum s.gs 0 = 0) := rfl
        have HZ3 := hideP z3
        have BR : Hid (∀ m, Below w.heap.size wo (wo.drewN m)) := fun m => below_drewN (Below.refl _ _) m
        rw [N.out] at M1
        clear rc rg HG HS HM HZ hs hm hsm z3 d0 d1
        generalize hcs : Pl.csz s.code = cs at *
        generalize s.code.length = cl at *
        generalize hgl : s.gs.length = G at *
        clear hcs hgl
        generalize hgt : Pl.gsum s.gs G = GT at *
        have HGT := hideP hgt
        clear hgt
        generalize hlb : Pl.lbF r s.code = r1 at *
        clear hlb
        obtain ⟨s1, s2, s3, s4⟩ := SP.out
        obtain ⟨v1, v2⟩ := HV.out
        have v3 : r = (16000 : Int) - L - (Pl.psum p k : Nat) := by
          by_cases hp : 0 ≤ (16000 : Int) - L - (Pl.psum p k : Nat)
          · exact v1 hp
          · have := v2 (by omega); omega
        have HV1 : Hid ((0 ≤ (16000 : Int) - L - (Pl.psum p k : Nat) - cs - G - (0 : Nat) → r1 - G = (16000 : Int) - L - (Pl.psum p k : Nat) - cs - G - (0 : Nat)) ∧ ((16000 : Int) - L - (Pl.psum p k : Nat) - cs - G - (0 : Nat) < 0 → r1 - G < 0)) := by
          refine ⟨fun h => ?_, fun h => ?_⟩
          · have := s2 (by omega); omega
          · by_cases hp : 0 ≤ r - (cs : Int)
            · have := s2 hp; omega
            · have := s3 (by omega); omega
        have hr3 : -5000000 ≤ r1 - G ∧ r1 - G ≤ 16000 := by omega
        clear v1 v2 v3 s1 s2 s3 s4 HV SP
        have hdm : ∀ m, (wo.drewN m).cell? ⟨b, off + k * 4 + 2, none⟩ = some (.slice a1 cl c1) := fun m => d2
        go_wp2
        go_quiet ((go_at_call 44; exact Calls.quiet_of_same (K.out _)))
        go_wp2
        go_loopw [3, 5] (fun u v wr => ∃ (j : Nat) (q : Int), j ≤ G ∧ v = .int .i64 j ∧ u = .int .i64 q ∧ (-5000000 ≤ q ∧ q ≤ 16000) ∧ Hid ((0 ≤ (16000 : Int) - L - (Pl.psum p k : Nat) - cs - G - (Pl.gsum s.gs j : Nat) → q = (16000 : Int) - L - (Pl.psum p k : Nat) - cs - G - (Pl.gsum s.gs j : Nat)) ∧ ((16000 : Int) - L - (Pl.psum p k : Nat) - cs - G - (Pl.gsum s.gs j : Nat) < 0 → q < 0)) ∧ Hid (Below w.heap.size wo wr)) (fun _ v _ => G - (intOf v).toNat)
        case atStart => exact ⟨0, _, Nat.zero_le _, rfl, rfl, hr3, by rw [HG0.out]; exact HV1, BR.out _⟩
        case round =>
          obtain ⟨j, q, hj, rfl, rfl, ⟨hq1, hq2⟩, HW, BX⟩ := hrel
          have e3 := HD3.out _ BX.out
          have MG := HGM.out j
          by_cases hlj : j < G
          · by_cases hq0 : 0 ≤ q
            · obtain ⟨g, hg, hgm, hgne⟩ := HGG.out j hlj
              obtain ⟨b2, o2, hb2, rfl, hcg⟩ := (HRG.out _ BX.out).resolve_left hgne
              obtain ⟨t1, t2, u1, u2, hgd⟩ := hcg j g hg
              have NG := hideP (HGS.out j g hg)
              obtain ⟨g0, g1, r0, rr1⟩ := hgd
              obtain ⟨y1, y2⟩ := HZ3.out g hgm
              have P1 := @Pl.lbF_spec q g.test
              have P2 := @Pl.lbF_spec (Pl.lbF q g.test) g.thn
              have EG : Pl.gsz g = Pl.csz g.test + Pl.csz g.thn := rfl
              have K1 : Hid (Calls Tryz.prog 44 #[.int .i64 q, .slice t1 g.test.length u1] wr fun e w' => e = .returned (.int .i64 (Pl.lbF q g.test)) ∧ w' = wr) := leftBehind_fx q g.test t1 u1 w.heap.size (by omega) (by omega) y1 wr r0
              have K2 : Hid (Calls Tryz.prog 44 #[.int .i64 (Pl.lbF q g.test), .slice t2 g.thn.length u2] wr fun e w' => e = .returned (.int .i64 (Pl.lbF (Pl.lbF q g.test) g.thn)) ∧ w' = wr) := leftBehind_fx _ g.thn t2 u2 w.heap.size (by omega) (by omega) y2 wr rr1
              clear HRG HD3 HGG HGS HGM hg hgm hgne hcg r0 rr1 K HZ3 BR
              generalize hl1 : Pl.lbF q g.test = q1 at *
              clear hl1
              generalize hl2 : Pl.lbF q1 g.thn = q2 at *
              clear hl2
              rw [EG] at NG
              generalize Pl.csz g.test = x1 at *
              generalize Pl.csz g.thn = x2 at *
              generalize g.test.length = l1 at *
              generalize g.thn.length = l2 at *
              obtain ⟨w1, w2⟩ := HW.out
              obtain ⟨p1, p2, p3, p4⟩ := P1
              obtain ⟨p5, p6, p7, p8⟩ := P2
              have w3 : q = (16000 : Int) - L - (Pl.psum p k : Nat) - cs - G - (Pl.gsum s.gs j : Nat) := by
                by_cases hp : 0 ≤ (16000 : Int) - L - (Pl.psum p k : Nat) - cs - G - (Pl.gsum s.gs j : Nat)
                · exact w1 hp
                · have := w2 (by omega); omega
              have HW2 : Hid ((0 ≤ (16000 : Int) - L - (Pl.psum p k : Nat) - cs - G - (Pl.gsum s.gs j + (x1 + x2) : Nat) → q2 = (16000 : Int) - L - (Pl.psum p k : Nat) - cs - G - (Pl.gsum s.gs j + (x1 + x2) : Nat)) ∧ ((16000 : Int) - L - (Pl.psum p k : Nat) - cs - G - (Pl.gsum s.gs j + (x1 + x2) : Nat) < 0 → q2 < 0)) := by
                refine ⟨fun h => ?_, fun h => ?_⟩
                · have h1 := p2 (by omega)
                  have h2 := p6 (by omega)
                  omega
                · by_cases hp : 0 ≤ q - (x1 : Int)
                  · have h1 := p2 hp
                    have h2 := p7 (by omega)
                    exact h2
                  · have h1 := p3 (by omega)
                    omega
              have hq3 : -5000000 ≤ q2 ∧ q2 ≤ 16000 := by omega
              clear w1 w2 w3 p1 p2 p3 p4 p5 p6 p7 p8 HW
              go_wp2_with fail
              refine K1.out.mono ?_
              rintro e w' ⟨rfl, rfl⟩
              go_wp2_with fail
              refine K2.out.mono ?_
              rintro e w' ⟨rfl, rfl⟩
              go_wp2_with fail
              go_roundw
              case rel => exact ⟨j + 1, _, by omega, by go_num, rfl, hq3, by rw [NG.out]; exact HW2, BX⟩
              case measure => simp [intOf]; omega
            · have HB2 : Hid (Below w.heap.size w wr) := BB.out.trans BX.out
              have HV2 : Hid ((0 ≤ (16000 : Int) - L - (Pl.psum p (k + 1) : Nat) → q = 16000 - L - (Pl.psum p (k + 1) : Nat)) ∧ ((16000 : Int) - L - (Pl.psum p (k + 1) : Nat) < 0 → q < 0)) := by
                rw [N.out, ESZ]
                obtain ⟨w1, w2⟩ := HW.out
                refine ⟨fun h => ?_, fun h => by omega⟩
                have := w1 (by omega)
                omega
              have hqd : decide (0 ≤ q) = false := decide_eq_false hq0
              clear HRG HD3 HGG HGS HGM K HZ3 BR
              go_wp2_with fail
              go_roundw
              case rel => exact ⟨k + 1, _, by omega, by go_num, rfl, ⟨hq1, hq2⟩, HV2, HB2⟩
              case measure => simp [intOf]; omega
          · obtain rfl : j = G := by omega
            have HB2 : Hid (Below w.heap.size w wr) := BB.out.trans BX.out
            have HV2 : Hid ((0 ≤ (16000 : Int) - L - (Pl.psum p (k + 1) : Nat) → q = 16000 - L - (Pl.psum p (k + 1) : Nat)) ∧ ((16000 : Int) - L - (Pl.psum p (k + 1) : Nat) < 0 → q < 0)) := by
              rw [N.out, ESZ]
              obtain ⟨w1, w2⟩ := HW.out
              rw [HGT.out] at w1 w2
              refine ⟨fun h => ?_, fun h => w2 (by omega)⟩
              have := w1 (by omega)
              omega
            clear HRG HD3 HGG HGS HGM K HZ3 BR
            go_wp2_with fail
            go_roundw
            case rel => exact ⟨k + 1, _, by omega, by go_num, rfl, ⟨hq1, hq2⟩, HV2, HB2⟩
            case measure => simp [intOf]; omega
      · obtain rfl : k = L := by omega
        obtain ⟨v1, v2⟩ := HV.out
        rw [HT.out] at v1 v2
        have HR : Hid (decide (k + T ≤ 16000) = true) := by
          show _ = _
          rw [decide_eq_true_eq]
          by_cases hp : 0 ≤ (16000 : Int) - k - (T : Nat)
          · omega
          · have := v2 (by omega); omega
        clear HG HS HM HZ v1 v2 HV
        go_wp2_with fail
        go_ret
        exact ret_below HR.out BB.out
    · obtain ⟨v1, v2⟩ := HV.out
      have HR : Hid (decide (L + T ≤ 16000) = false) := by
        show _ = _
        rw [decide_eq_false_iff_not]
        intro h
        have := v1 (by omega)
        omega
      have hrd : decide (0 ≤ r) = false := decide_eq_false hr0
      clear HG HS HM HZ v1 v2 HV
      by_cases hlt : k < L
      · go_wp2_with fail
        go_ret
        exact ret_below HR.out BB.out
      · go_wp2_with fail
        go_ret
        exact ret_below HR.out BB.out
namespace Pl
/-- impl.programText -/
def prg (p : List Tv) : Option (List UInt8) := if psz p ≤ 16000 then ltx nt p else none
theorem stx_len {s : Tv} {x : List UInt8} (hc : Small s.code) (hz : s.gs.length + gsum s.gs s.gs.length ≤ 1048576) (h : stx nt s = some x) : x.length ≤ 200000000 := by
  obtain ⟨e, g, he, hg, hcase⟩ := stx_get h
  have h1 := xt_len he
  have h2 := gtx_len hg
  have h3 := hc.sz
  rcases hcase with ⟨_, rfl⟩ | ⟨_, rfl, h4⟩ | ⟨_, rfl, h4⟩
  · omega
  · simp only [List.length_append, List.length_cons, List.length_nil]; omega
  · simp only [List.length_append, List.length_cons, List.length_nil]; omega
theorem ltx_step {l : List Tv} {k : Nat} {s : Tv} (h : l[k]? = some s) {P x : List UInt8} (hp : ltx nt (l.take k) = some P) (hx : stx nt s = some x) : ltx nt (l.take (k + 1)) = some (P ++ (x ++ [10])) := by
  rw [List.take_add_one, h]
  show ltx nt (l.take k ++ [s]) = _
  rw [ltx_snoc, hp, hx]
theorem stx_w {s : Tv} {x : List UInt8} (h : stx nt s = some x) : x.length ≤ 45 * ssz s + 30 := by
  obtain ⟨e, g, he, hg, hcase⟩ := stx_get h
  have h1 := xt_len he
  have h2 := gtx_len hg
  have h3 := ssz_eq s
  rcases hcase with ⟨_, rfl⟩ | ⟨_, rfl, h4⟩ | ⟨_, rfl, h4⟩
  · omega
  · simp only [List.length_append, List.length_cons, List.length_nil]; omega
  · simp only [List.length_append, List.length_cons, List.length_nil]; omega
theorem ltx_len {l : List Tv} {P : List UInt8} (h : ltx nt l = some P) : P.length ≤ 45 * (l.map ssz).sum + 31 * l.length := by
  induction l generalizing P with
  | nil => simp [ltx] at h; simp [← h]
  | cons s l ih =>
    unfold ltx at h
    cases e1 : stx nt s with
    | none => rw [e1] at h; cases h
    | some a =>
      cases e2 : ltx nt l with
      | none => rw [e1, e2] at h; cases h
      | some t =>
        rw [e1, e2] at h
        have := ih e2
        have := stx_w e1
        rw [← Option.some.inj h]
        simp only [List.length_append, List.length_cons, List.length_nil, List.map_cons, List.sum_cons]
        omega
end Pl
set_option maxHeartbeats 8000000 in
/-- impl.programText -/
theorem programText_any (p : List Pl.Tv) (ao : Option Addr) (cap mb mo cp : Nat) (hsm : Pl.SmallP p) (w : World) (he : Ev w mb mo cp) (hR : RdP w.heap.size w ao p) :
    Calls Tryz.prog 15 #[.slice ao p.length cap] w fun e w' => e = .returned (.tuple #[.string (Pl.ba ((Pl.prg p).getD [])), .bool (Pl.prg p).isSome]) ∧ Below w.heap.size w w' := by
  have K0 := hideP (itemsFit_any p ao cap hsm w hR)
  have hln := hsm.len
  by_cases hz : Pl.psz p ≤ 16000
  · rw [decide_eq_true hz] at K0
    have EP : Hid (Pl.prg p = Pl.ltx Pl.nt p) := by show _ = _; unfold Pl.prg; rw [if_pos hz]
    rw [EP.out]
    have HG : Hid (∀ k, k < p.length → ∃ s b off, p[k]? = some s ∧ s ∈ p ∧ ao = some ⟨b, off, none⟩ ∧ b < w.heap.size ∧ ∃ a1 a2 c1 c2, ∀ w', Below w.heap.size w w' → Sm w.heap.size w' b (off + k * 4) s a1 a2 c1 c2) := fun k hk => by
      rcases hR with rfl | ⟨b, off, hb, rfl, hc⟩
      · cases hk
      · obtain ⟨a1, a2, c1, c2, h⟩ := hc k p[k] (List.getElem?_eq_getElem hk)
        exact ⟨p[k], b, off, List.getElem?_eq_getElem hk, List.getElem_mem hk, rfl, hb, a1, a2, c1, c2, fun w' hw => h.keep hb hw⟩
    have HN : Hid (∀ s ∈ p, Pl.stx Pl.nt s = none → Pl.ltx Pl.nt p = none) := fun s hs h => Pl.ltx_none hs h
    have HS : Hid (∀ k s P x, p[k]? = some s → Pl.ltx Pl.nt (p.take k) = some P → Pl.stx Pl.nt s = some x → Pl.ltx Pl.nt (p.take (k + 1)) = some (P ++ (x ++ [10]))) := fun k s P x h1 h2 h3 => Pl.ltx_step h1 h2 h3
    have HL : Hid (∀ k P, k ≤ p.length → Pl.ltx Pl.nt (p.take k) = some P → P.length ≤ 100000000) := fun k P hk h => by
      have h1 := Pl.ltx_len h
      have h2 := Pl.psum_le p k
      have h3 := Pl.psz_eq p
      have h4 : ((p.take k).map Pl.ssz).sum = Pl.psum p k := rfl
      have h5 : (p.take k).length ≤ p.length := by rw [List.length_take]; omega
      omega
    have HE : Hid (∀ P, Pl.ltx Pl.nt (p.take p.length) = some P → Pl.ltx Pl.nt p = some P) := fun P h => by rwa [List.take_length] at h
    have HP : Hid (∀ k P, 0 < k → k ≤ p.length → Pl.ltx Pl.nt (p.take k) = some P → P ≠ []) := fun k P h0 hk h => by
      obtain ⟨j, rfl⟩ : ∃ j, k = j + 1 := ⟨k - 1, by omega⟩
      have hj : j < p.length := hk
      rw [List.take_add_one, List.getElem?_eq_getElem hj] at h
      have h' : Pl.ltx Pl.nt (p.take j ++ [p[j]]) = some P := h
      rw [Pl.ltx_snoc] at h'
      cases e1 : Pl.ltx Pl.nt (p.take j) with
      | none => rw [e1] at h'; cases h'
      | some P0 =>
        cases e2 : Pl.stx Pl.nt p[j] with
        | none => rw [e1, e2] at h'; cases h'
        | some x =>
          rw [e1, e2] at h'
          rw [← Option.some.inj h']
          simp
    have HX : Hid (∀ s ∈ p, (∀ x, Pl.stx Pl.nt s = some x → x.length ≤ 200000000) ∧ ∀ (a1 a2 : Option Addr) (c1 c2 : Nat) w', Below w.heap.size w w' → RdS w.heap.size w' a1 s.code → RdG w.heap.size w' a2 s.gs → Calls Tryz.prog 25 #[.agg #[.int .i64 s.k, .string (Pl.ba s.nm), .slice a1 s.code.length c1, .slice a2 s.gs.length c2]] w' (StxPost s w')) := fun s hs => by
      have h1 := Pl.ssz_mem hs
      have h2 := Pl.ssz_eq s
      have h3 : s.gs.length + Pl.gsum s.gs s.gs.length ≤ 1048576 := by omega
      exact ⟨fun x hx => Pl.stx_len (hsm.st s hs).code h3 hx, fun a1 a2 c1 c2 w' h r1 r2 => stmtText_any s a1 a2 c1 c2 mb mo cp (hsm.st s hs) h3 w' (he.keep h) (r1.up h.size) (r2.up h.size)⟩
    have NEW : Hid (∀ w1, Below w.heap.size w w1 → Tx w1.heap.size w1.heap.size [] (w1.alloc (.cells #[.pointer none, .slice none 0 0] 68)) ∧ Below w1.heap.size w1 (w1.alloc (.cells #[.pointer none, .slice none 0 0] 68)) ∧ (w1.alloc (.cells #[.pointer none, .slice none 0 0] 68)).cell? ⟨w1.heap.size, 1, none⟩ = some (.slice none 0 0)) := fun w1 _ => ⟨Tx.new w1, (Below.refl _ _).alloc (Nat.le_refl _) _, by simp [go_sem]⟩
    clear hR he hsm hz EP
    generalize hx : Pl.ltx Pl.nt p = x at *
    clear hx
    generalize hn : p.length = n at *
    clear hn
    go_enter Tryz.func15, Tryz.ntmps15
    go_wp2_with fail
    refine K0.out.mono ?_
    rintro e w1 ⟨rfl, hb1⟩
    have H1 := hideP hb1
    obtain ⟨n1, n2, n3⟩ := NEW.out _ hb1
    have T0 := hideP n1
    have B0 := hideP n2
    have C0 := hideP n3
    have hz1 := hb1.size
    clear hb1 n1 n2 n3 NEW K0
    go_wp2_with fail
    go_loopw [14] (fun iv wr => ∃ (k : Nat) (P : List UInt8), k ≤ n ∧ iv = .int .i64 k ∧ Hid (Pl.ltx Pl.nt (p.take k) = some P ∧ Tx w1.heap.size w1.heap.size P wr ∧ (k = 0 → wr.cell? ⟨w1.heap.size, 1, none⟩ = some (.slice none 0 0))) ∧ Hid (Below w1.heap.size w1 wr)) (fun iv _ => n - (intOf iv).toNat)
    case atStart => exact ⟨0, [], Nat.zero_le _, rfl, ⟨rfl, T0.out, fun _ => C0.out⟩, B0⟩
    case round =>
      rename World => wo
      obtain ⟨k, P, hk, rfl, HH, BB⟩ := hrel
      have hbs := BB.out.size
      have BW : Hid (Below w.heap.size w wo) := H1.out.trans (BB.out.mono hz1)
      have hpl := HL.out k P hk HH.out.1
      by_cases hlt : k < n
      · obtain ⟨s, b, off, hs, hsm, rfl, hb, a1, a2, c1, c2, hgd⟩ := HG.out k hlt
        obtain ⟨g0, g1, g2, g3, r0, r1⟩ := hgd _ BW.out
        have N := hideP (HN.out s hsm)
        have S := hideP (fun x => HS.out k s P x hs HH.out.1)
        obtain ⟨xl, kx⟩ := HX.out s hsm
        have XL := hideP xl
        have BA : Hid (∀ o', Below wo.heap.size wo (wo.alloc o')) := fun o' => (Below.refl _ _).alloc (Nat.le_refl _) _
        have KS : Hid (∀ o', Calls Tryz.prog 25 #[.agg #[.int .i64 s.k, .string (Pl.ba s.nm), .slice a1 s.code.length c1, .slice a2 s.gs.length c2]] (wo.alloc o') (StxPost s (wo.alloc o'))) := fun o' => kx a1 a2 c1 c2 (wo.alloc o') (BW.out.trans ((BA.out o').mono BW.out.size)) (r0.keep ((BA.out o').mono BW.out.size)) (r1.keep ((BA.out o').mono BW.out.size))
        have HTX : Hid (∀ w', Below wo.heap.size wo w' → Tx w1.heap.size w1.heap.size P w') := fun w' h => HH.out.2.1.keep h
        clear HG HN HS HL HE HP HX hs hsm hgd r0 r1 HH xl kx
        generalize Pl.ba s.nm = nm at *
        generalize s.code.length = cl at *
        generalize s.gs.length = gl at *
        generalize s.k = kk at *
        go_wp2_with fail
        refine (KS.out _).mono ?_
        rintro e w2 ⟨str, rfl, hstr, hb2⟩
        have HST := hideP hstr
        have H2 := hideP ((BA.out _).trans (hb2.mono (by simp)))
        have B2 : Hid (Below w.heap.size w w2) := BW.out.trans (H2.out.mono BW.out.size)
        have B12 : Hid (Below w1.heap.size w1 w2) := BB.out.trans (H2.out.mono hbs)
        have X2 := hideP (HTX.out _ H2.out)
        clear hb2 hstr KS
        cases hst : Pl.stx Pl.nt s with
        | none =>
          have HR := hideP (N.out hst)
          clear hst
          go_wp2_with fail
          go_ret2
          exact ⟨ret_x (by rw [HR.out]; rfl) (by rw [HR.out]; rfl), B2.out⟩
        | some xx =>
          have HR := hideP (S.out xx hst)
          have hxl := XL.out xx hst
          have hse := HST.out xx hst
          clear hst
          subst hse
          have hsz : (Pl.ba xx).size ≤ 1000000000 := by rw [Pl.ba_size]; omega
          go_wp2_with fail
          refine (tx_str w1.heap.size w1.heap.size P _ _ X2.out (by omega) hsz B12.out.size).mono ?_
          rintro e w3 ⟨rfl, h1, h2⟩
          have X3 : Hid (Tx w1.heap.size w1.heap.size (P ++ xx) w3) := h1
          have B3 := hideP (B12.out.trans h2)
          clear h1 h2
          go_wp2_with fail
          refine (tx_byte w1.heap.size w1.heap.size _ 10 10 rfl _ X3.out (by rw [List.length_append]; omega) B3.out.size).mono ?_
          rintro e w4 ⟨rfl, h1, h2⟩
          have X4 : Hid (Tx w1.heap.size w1.heap.size (P ++ (xx ++ [10])) w4) := by rw [← List.append_assoc]; exact h1
          have B4 := hideP (B3.out.trans h2)
          clear h1 h2
          go_wp2_with fail
          go_roundw
          case rel => exact ⟨k + 1, _, by omega, by go_num, ⟨HR.out, X4.out, fun h => by omega⟩, B4⟩
          case measure => simp [intOf]; omega
      · obtain rfl : k = n := by omega
        obtain ⟨h1, h2, h3⟩ := HH.out
        have HR := hideP (HE.out P h1)
        by_cases k0 : k = 0
        · have hcell := h3 k0
          have hP : P = [] := by
            rw [k0] at h1
            exact (Option.some.inj h1).symm
          have K := hideP (tx_nil w1.heap.size wo hcell)
          have HPN := hideP hP
          clear HG HN HS HL HE HP HX HH h1 h2 h3 hcell hP k0
          go_wp2_with (go_at_call 28; refine K.out.mono ?_; rintro e w' ⟨rfl, hb⟩)
          go_ret2
          exact ⟨ret_x (by rw [HR.out, HPN.out]; rfl) (by rw [HR.out]; rfl), BW.out.trans (hb.mono BW.out.size)⟩
        · have hP := HP.out k P (by omega) hk h1
          have K : Hid (Calls Tryz.prog 28 #[.pointer (some ⟨w1.heap.size, 0, none⟩)] wo fun e w' => e = .returned (.string (Pl.ba P)) ∧ Below w1.heap.size wo w') := string_any w1.heap.size w1.heap.size P wo h2 hP
          clear HG HN HS HL HE HP HX HH h1 h2 h3 hP k0
          go_wp2_with (go_at_call 28; refine K.out.mono ?_; rintro e w' ⟨rfl, hb⟩)
          go_ret2
          exact ⟨ret_x (by rw [HR.out]; rfl) (by rw [HR.out]; rfl), BW.out.trans (hb.mono hz1)⟩
  · rw [decide_eq_false hz] at K0
    have HR := hideP (show Pl.prg p = none by unfold Pl.prg; rw [if_neg hz])
    clear hz hR he hsm
    generalize Pl.prg p = x at *
    generalize p.length = n at *
    go_enter Tryz.func15, Tryz.ntmps15
    go_wp2_with (go_at_call 24; refine K0.out.mono ?_; rintro e w1 ⟨rfl, hb1⟩)
    go_ret2
    exact ⟨ret_x (by rw [HR.out]; rfl) (by rw [HR.out]; rfl), hb1⟩
/-- impl.Print -/
theorem implPrint_any (p : List Pl.Tv) (ao : Option Addr) (cap mb mo cp : Nat) (hsm : Pl.SmallP p) (w : World) (he : Ev w mb mo cp) (hR : RdP w.heap.size w ao p) :
    Calls Tryz.prog 6 #[.slice ao p.length cap] w fun e w' => e = .returned (.tuple #[.string (Pl.ba (Pl.prt Pl.nt p).1), .bool (Pl.prt Pl.nt p).2]) ∧ Below w.heap.size w w' := by
  have K := hideP (programText_any p ao cap mb mo cp hsm w he hR)
  have HF : Hid (Pl.prt Pl.nt p = match Pl.prg p with | some t => if t.length ≤ 4000 then (t, true) else ([], false) | none => ([], false)) := by
    show _ = _
    unfold Pl.prt Pl.prg
    split <;> rfl
  clear he hR hsm
  generalize Pl.prt Pl.nt p = r at *
  generalize p.length = n at *
  cases h : Pl.prg p with
  | none =>
    rw [h] at K HF
    have HR := hideP (show r = ([], false) from HF.out)
    simp only [Option.getD_none, Option.isSome_none] at K
    clear h HF
    go_enter Tryz.func6, Tryz.ntmps6
    go_wp2_with (go_at_call 15; refine K.out.mono ?_; rintro e w1 ⟨rfl, hb1⟩)
    go_ret2
    exact ⟨ret_x (by rw [HR.out]; rfl) (by rw [HR.out]), hb1⟩
  | some t =>
    rw [h] at K HF
    simp only [Option.getD_some, Option.isSome_some] at K
    have hs : (Pl.ba t).size = t.length := rfl
    have HS : Hid ((Pl.ba t).size = t.length) := hs
    clear h
    by_cases h4 : t.length ≤ 4000
    · have HR := hideP (show r = (t, true) from HF.out.trans (if_pos h4))
      have hq : ¬ (((Pl.ba t).size : Int) > 4000) := by omega
      have HRR : Hid (Pl.ba r.1 = Pl.ba t ∧ r.2 = true) := by rw [HR.out]; exact ⟨rfl, rfl⟩
      clear HF hs HS h4 HR
      generalize Pl.ba t = tt at *
      go_enter Tryz.func6, Tryz.ntmps6
      go_wp2_with (go_at_call 15; refine K.out.mono ?_; rintro e w1 ⟨rfl, hb1⟩)
      go_ret2
      exact ⟨ret_x HRR.out.1.symm HRR.out.2.symm, hb1⟩
    · have HR := hideP (show r = ([], false) from HF.out.trans (if_neg h4))
      have hq : ((Pl.ba t).size : Int) > 4000 := by omega
      clear HF hs HS h4
      generalize Pl.ba t = tt at *
      go_enter Tryz.func6, Tryz.ntmps6
      go_wp2_with (go_at_call 15; refine K.out.mono ?_; rintro e w1 ⟨rfl, hb1⟩)
      go_ret2
      exact ⟨ret_x (by rw [HR.out]; rfl) (by rw [HR.out]), hb1⟩
end Go.Proofs.YthhfpcdbgndioaaGreatDoor
