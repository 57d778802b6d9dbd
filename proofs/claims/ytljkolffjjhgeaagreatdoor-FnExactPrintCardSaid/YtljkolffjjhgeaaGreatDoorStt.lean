import Derived.Test.YtljkolffjjhgeaaGreatDoorGtx
import Derived.Test.YtljkolffjjhgeaaGreatDoorSu2a
import Derived.Test.YtljkolffjjhgeaaGreatDoorSu3a
import Derived.Test.YtljkolffjjhgeaaGreatDoorSu3b
namespace Go.Proofs.YtljkolffjjhgeaaGreatDoor
open Go.RowKit
set_option linter.unusedVariables false
set_option maxRecDepth 100000
theorem Pl.wk_vals (l : List UInt8) : Pl.wk l = 0 ∨ Pl.wk l = 2 ∨ Pl.wk l = 3 ∨ Pl.wk l = 4 := by
  unfold Pl.wk
  split
  · exact .inl rfl
  split
  · exact .inl rfl
  split
  · exact .inl rfl
  split
  · exact .inl rfl
  split
  · exact .inr (.inr (.inl rfl))
  split
  · exact .inr (.inr (.inr rfl))
  · exact .inr (.inl rfl)
/-- what stmtText says -/
def StxPost (s : Pl.Tv) (w : World) (e : Ending) (w' : World) : Prop :=
  ∃ str, e = .returned (.tuple #[.string str, .bool (Pl.stx Pl.nt s).isSome]) ∧ (∀ x, Pl.stx Pl.nt s = some x → str = Pl.ba x) ∧ Below w.heap.size w w'
theorem stx_no {s : Pl.Tv} {w w' : World} {str : ByteArray} (h : Pl.stx Pl.nt s = none) (hb : Below w.heap.size w w') : StxPost s w (.returned (.tuple #[.string str, .bool false])) w' := ⟨str, by rw [h]; rfl, fun x hx => (by rw [h] at hx; cases hx), hb⟩
theorem stx_yes {s : Pl.Tv} {w w' : World} {str : ByteArray} {x : List UInt8} (h : Pl.stx Pl.nt s = some x) (hs : str = Pl.ba x) (hb : Below w.heap.size w w') : StxPost s w (.returned (.tuple #[.string str, .bool true])) w' := ⟨str, by rw [h]; rfl, fun y hy => (by rw [h] at hy; rw [hs, Option.some.inj hy]), hb⟩
set_option maxHeartbeats 16000000 in
/-- impl.stmtText -/
theorem stmtText_any (s : Pl.Tv) (a1 a2 : Option Addr) (c1 c2 mb mo cp : Nat) (hsm : Pl.SmallT s) (hz : s.gs.length + Pl.gsum s.gs s.gs.length ≤ 1048576) (w : World) (he : Ev w mb mo cp) (hc : RdS w.heap.size w a1 s.code) (hg : RdG w.heap.size w a2 s.gs) :
    Calls Tryz.prog 24 #[.agg #[.int .i64 s.k, .string (Pl.ba s.nm), .slice a1 s.code.length c1, .slice a2 s.gs.length c2]] w (StxPost s w) := by
  have HB : Hid (∀ o, Below w.heap.size w (w.alloc o)) := fun o => (Below.refl _ _).alloc (Nat.le_refl _) _
  have K1 : Hid (∀ w', Below w.heap.size w w' → Calls Tryz.prog 43 #[.slice a1 s.code.length c1] w' fun e w2 => e = .returned (.tuple #[.string (Pl.ba ((Pl.xt Pl.nt s.code).getD [])), .bool (Pl.xt Pl.nt s.code).isSome]) ∧ Below w'.heap.size w' w2) := fun w' h => exprText_any s.code a1 c1 mb mo cp hsm.code w' (he.keep h) ((hc.keep h).up h.size)
  have K2 : Hid (∀ w', Below w.heap.size w w' → Calls Tryz.prog 44 #[.slice a2 s.gs.length c2] w' fun e w2 => e = .returned (.tuple #[.string (Pl.ba ((Pl.gtx Pl.nt s.gs).getD [])), .bool (Pl.gtx Pl.nt s.gs).isSome]) ∧ Below w'.heap.size w' w2) := fun w' h => guardsText_any s.gs a2 c2 mb mo cp hsm.gs hz w' (he.keep h) ((hg.keep h).up h.size)
  have KW : Hid (∀ w', Below w.heap.size w w' → Calls Tryz.prog 45 #[.string (Pl.ba s.nm)] w' fun e w2 => e = .returned (.int .i64 (Pl.wk s.nm)) ∧ Below w'.heap.size w' w2) := fun w' h => wordKind_any (Pl.ba s.nm) mb mo cp w' (he.keep h).mt (by rw [Pl.ba_size]; have := hsm.nm; omega)
  have hqn := ba_beq s.nm
  have hqs := self_beq s.nm
  have HL1 : Hid (∀ x, Pl.xt Pl.nt s.code = some x → x.length ≤ 50000000) := fun x hx => by have := Pl.xt_len hx; have := hsm.code.sz; omega
  have HL2 : Hid (∀ x, Pl.gtx Pl.nt s.gs = some x → x.length ≤ 50000000) := fun x hx => by have := Pl.gtx_len hx; omega
  have hnl := hsm.nm
  have HF : Hid (∀ e g, Pl.xt Pl.nt s.code = some e → Pl.gtx Pl.nt s.gs = some g → Pl.stx Pl.nt s = if s.k = 1 then (if s.nm = [] ∧ s.gs.length = 0 then some e else none) else if s.k = 2 then (if Pl.wk s.nm = 2 ∧ s.gs.length = 0 then some (s.nm ++ [32, 58, 61, 32] ++ e) else none) else if s.k = 3 then (if Pl.wk s.nm = 3 ∧ s.nm ≠ Pl.selfW then some (s.nm ++ [32, 58, 61, 32, 123] ++ g ++ e ++ [125]) else none) else none) := fun e g h1 h2 => by
    unfold Pl.stx
    rw [h1, h2]
    have e1 : (s.gs = []) = (s.gs.length = 0) := by rw [List.length_eq_zero_iff]
    simp only [e1]
  have HF1 : Hid (Pl.xt Pl.nt s.code = none → Pl.stx Pl.nt s = none) := fun h => by unfold Pl.stx; rw [h]
  have HF2 : Hid (Pl.gtx Pl.nt s.gs = none → Pl.stx Pl.nt s = none) := fun h => by unfold Pl.stx; rw [h]; cases Pl.xt Pl.nt s.code <;> rfl
  have C : Hid (∀ (w1 w' : World) (j : Nat) (v : Value), Below w1.heap.size w1 w' → w.heap.size < w1.heap.size → w1.cell? ⟨w.heap.size, j, none⟩ = some v → w'.cell? ⟨w.heap.size, j, none⟩ = some v) := fun w1 w' j v hb h1 h => (hb.cell (p := ⟨w.heap.size, j, none⟩) h1).trans h
  have FN := hideP (fun (w' : World) (str : ByteArray) (h : Pl.stx Pl.nt s = none) (hb : Below w.heap.size w w') => stx_no (str := str) h hb)
  have FY := hideP (fun (w' : World) (str : ByteArray) (x : List UInt8) (h : Pl.stx Pl.nt s = some x) (hs : str = Pl.ba x) (hb : Below w.heap.size w w') => stx_yes h hs hb)
  have hgl : s.gs.length ≤ 1048576 := by omega
  clear he hc hg hsm hz
  generalize hxc : Pl.xt Pl.nt s.code = xc at *
  generalize hxg : Pl.gtx Pl.nt s.gs = xg at *
  clear hxc hxg
  have HWV := hideP (Pl.wk_vals s.nm)
  generalize Pl.wk s.nm = z at *
  generalize hG : s.gs.length = G at *
  clear hG
  generalize s.code.length = cl at *
  generalize s.k = kk at *
  generalize hnn : s.nm = nml at *
  clear hnn
  have hba : (Pl.ba nml).size = nml.length := rfl
  generalize hdn : decide (nml = []) = n0 at *
  generalize hds : decide (nml = Pl.selfW) = ns at *
  have HDN := hideP hdn
  have HDS := hideP hds
  clear hdn hds
  have HEX : Hid (∀ (x : ByteArray) (l : List UInt8), x.data.toList = l → x = Pl.ba l) := fun x l h => by rw [Pl.ba_iff]; exact h
  cases xc with
  | none =>
    have HR := hideP (HF1.out rfl)
    simp only [Option.getD_none, Option.isSome_none] at K1
    generalize Pl.ba (xg.getD []) = sg at *
    generalize xg.isSome = og at *
    generalize Pl.ba nml = nm at *
    clear HF HF1 HF2 HL1 HL2
    go_enter Tryz.func24, Tryz.ntmps24
    go_wp2_with fail
    refine (K1.out _ (HB.out _)).mono ?_
    rintro e' w2 ⟨rfl, hb2⟩
    have d0 := C.out _ _ 0 _ hb2 (by simp) (by simp [go_sem]; rfl)
    have d1 := C.out _ _ 1 _ hb2 (by simp) (by simp [go_sem]; rfl)
    have d3 := C.out _ _ 3 _ hb2 (by simp) (by simp [go_sem]; rfl)
    have B2 := hideP ((HB.out _).trans (hb2.mono (by simp)))
    have z2 : w.heap.size < w2.heap.size := Nat.lt_of_lt_of_le (by simp) hb2.size
    clear hb2
    go_wp2_with fail
    refine (K2.out _ B2.out).mono ?_
    rintro e' w3 ⟨rfl, hb3⟩
    have e0 := C.out _ _ 0 _ hb3 z2 d0
    have e1 := C.out _ _ 1 _ hb3 z2 d1
    have e3 := C.out _ _ 3 _ hb3 z2 d3
    have B3 := hideP (B2.out.trans (hb3.mono B2.out.size))
    have z3 : w.heap.size < w3.heap.size := Nat.lt_of_lt_of_le z2 hb3.size
    clear hb3 d0 d1 d3
    go_wp2_with fail
    go_ret2
    exact FN.out _ _ HR.out B3.out
  | some xe =>
    have hle := HL1.out xe rfl
    simp only [Option.getD_some, Option.isSome_some] at K1
    cases xg with
    | none =>
      have HR := hideP (HF2.out rfl)
      simp only [Option.getD_none, Option.isSome_none] at K2
      generalize Pl.ba xe = se at *
      generalize Pl.ba nml = nm at *
      clear HF HF1 HF2 HL1 HL2
      go_enter Tryz.func24, Tryz.ntmps24
      go_wp2_with fail
      refine (K1.out _ (HB.out _)).mono ?_
      rintro e' w2 ⟨rfl, hb2⟩
      have d0 := C.out _ _ 0 _ hb2 (by simp) (by simp [go_sem]; rfl)
      have d1 := C.out _ _ 1 _ hb2 (by simp) (by simp [go_sem]; rfl)
      have d3 := C.out _ _ 3 _ hb2 (by simp) (by simp [go_sem]; rfl)
      have B2 := hideP ((HB.out _).trans (hb2.mono (by simp)))
      have z2 : w.heap.size < w2.heap.size := Nat.lt_of_lt_of_le (by simp) hb2.size
      clear hb2
      go_wp2_with fail
      refine (K2.out _ B2.out).mono ?_
      rintro e' w3 ⟨rfl, hb3⟩
      have e0 := C.out _ _ 0 _ hb3 z2 d0
      have e1 := C.out _ _ 1 _ hb3 z2 d1
      have e3 := C.out _ _ 3 _ hb3 z2 d3
      have B3 := hideP (B2.out.trans (hb3.mono B2.out.size))
      have z3 : w.heap.size < w3.heap.size := Nat.lt_of_lt_of_le z2 hb3.size
      clear hb3 d0 d1 d3
      go_wp2_with fail
      go_ret2
      exact FN.out _ _ HR.out B3.out
    | some xgg =>
      have hlg := HL2.out xgg rfl
      simp only [Option.getD_some, Option.isSome_some] at K2
      have HS := hideP (HF.out xe xgg rfl rfl)
      clear HF HF1 HF2 HL1 HL2
      have hbe : (Pl.ba xe).size = xe.length := rfl
      have hbg : (Pl.ba xgg).size = xgg.length := rfl
      have m1 : ¬ (9223372036854775807 < (Pl.ba nml).size + 4) := by omega
      have m2 : ¬ (9223372036854775807 < (Pl.ba nml).size + 4 + (Pl.ba xe).size) := by omega
      have m3 : ¬ (9223372036854775807 < (Pl.ba nml).size + 5) := by omega
      have m4 : ¬ (9223372036854775807 < (Pl.ba nml).size + 5 + (Pl.ba xgg).size) := by omega
      have m5 : ¬ (9223372036854775807 < (Pl.ba nml).size + 5 + (Pl.ba xgg).size + (Pl.ba xe).size) := by omega
      have m6 : ¬ (9223372036854775807 < (Pl.ba nml).size + 5 + (Pl.ba xgg).size + (Pl.ba xe).size + 1) := by omega
      have X2 : Hid (Pl.ba nml ++ ⟨#[32, 58, 61, 32]⟩ ++ Pl.ba xe = Pl.ba (nml ++ [32, 58, 61, 32] ++ xe)) := HEX.out _ _ (by simp [Pl.ba])
      have X3 : Hid (Pl.ba nml ++ ⟨#[32, 58, 61, 32, 123]⟩ ++ Pl.ba xgg ++ Pl.ba xe ++ ⟨#[125]⟩ = Pl.ba (nml ++ [32, 58, 61, 32, 123] ++ xgg ++ xe ++ [125])) := HEX.out _ _ (by simp [Pl.ba])
      have X1 : Hid (Pl.ba xe = Pl.ba xe) := rfl
      have HLL : Hid ((Pl.ba nml).size ≤ 100000000 ∧ (Pl.ba xe).size ≤ 100000000 ∧ (Pl.ba xgg).size ≤ 100000000) := ⟨by omega, by omega, by omega⟩
      clear hbe hbg hba hle hlg hnl HEX
      by_cases k1 : kk = 1
      · subst k1
        have HS1 := hideP (show Pl.stx Pl.nt s = if nml = [] ∧ G = 0 then some xe else none by rw [HS.out, if_pos rfl])
        clear HS X2 X3 KW
        cases n0
        · have HR := hideP (show Pl.stx Pl.nt s = none by rw [HS1.out, if_neg (fun h => of_decide_eq_false HDN.out h.1)])
          clear HS1 HDN HDS
          generalize Pl.ba xgg = sg at *
          generalize Pl.ba xe = se at *
          generalize Pl.ba nml = nm at *
          go_enter Tryz.func24, Tryz.ntmps24
          go_wp2_with fail
          refine (K1.out _ (HB.out _)).mono ?_
          rintro e' w2 ⟨rfl, hb2⟩
          have d0 := C.out _ _ 0 _ hb2 (by simp) (by simp [go_sem]; rfl)
          have d1 := C.out _ _ 1 _ hb2 (by simp) (by simp [go_sem]; rfl)
          have d3 := C.out _ _ 3 _ hb2 (by simp) (by simp [go_sem]; rfl)
          have B2 := hideP ((HB.out _).trans (hb2.mono (by simp)))
          have z2 : w.heap.size < w2.heap.size := Nat.lt_of_lt_of_le (by simp) hb2.size
          clear hb2
          go_wp2_with fail
          refine (K2.out _ B2.out).mono ?_
          rintro e' w3 ⟨rfl, hb3⟩
          have e0 := C.out _ _ 0 _ hb3 z2 d0
          have e1 := C.out _ _ 1 _ hb3 z2 d1
          have e3 := C.out _ _ 3 _ hb3 z2 d3
          have B3 := hideP (B2.out.trans (hb3.mono B2.out.size))
          have z3 : w.heap.size < w3.heap.size := Nat.lt_of_lt_of_le z2 hb3.size
          clear hb3 d0 d1 d3
          go_wp2_with fail
          go_quiet (fail)
          go_wp2
          go_ret2
          exact FN.out _ _ HR.out (below_drewN B3.out _)
        · by_cases hG0 : G = 0
          · subst hG0
            have HR := hideP (show Pl.stx Pl.nt s = some xe by rw [HS1.out, if_pos ⟨of_decide_eq_true HDN.out, rfl⟩])
            have FYY := hideP (fun w' hb => FY.out w' (Pl.ba xe) xe HR.out rfl hb)
            clear HS1 HDN HDS FY
            generalize Pl.ba xgg = sg at *
            generalize Pl.ba xe = se at *
            generalize Pl.ba nml = nm at *
            go_enter Tryz.func24, Tryz.ntmps24
            go_wp2_with fail
            refine (K1.out _ (HB.out _)).mono ?_
            rintro e' w2 ⟨rfl, hb2⟩
            have d0 := C.out _ _ 0 _ hb2 (by simp) (by simp [go_sem]; rfl)
            have d1 := C.out _ _ 1 _ hb2 (by simp) (by simp [go_sem]; rfl)
            have d3 := C.out _ _ 3 _ hb2 (by simp) (by simp [go_sem]; rfl)
            have B2 := hideP ((HB.out _).trans (hb2.mono (by simp)))
            have z2 : w.heap.size < w2.heap.size := Nat.lt_of_lt_of_le (by simp) hb2.size
            clear hb2
            go_wp2_with fail
            refine (K2.out _ B2.out).mono ?_
            rintro e' w3 ⟨rfl, hb3⟩
            have e0 := C.out _ _ 0 _ hb3 z2 d0
            have e1 := C.out _ _ 1 _ hb3 z2 d1
            have e3 := C.out _ _ 3 _ hb3 z2 d3
            have B3 := hideP (B2.out.trans (hb3.mono B2.out.size))
            have z3 : w.heap.size < w3.heap.size := Nat.lt_of_lt_of_le z2 hb3.size
            clear hb3 d0 d1 d3
            go_wp2_with fail
            go_quiet (fail)
            go_wp2
            go_ret2
            exact FYY.out _ (below_drewN B3.out _)
          · have hG1 : ((G : Int) == 0) = false := by simp [hG0]
            have HR := hideP (show Pl.stx Pl.nt s = none by rw [HS1.out, if_neg (fun h => hG0 h.2)])
            clear HS1 HDN HDS hG0
            generalize Pl.ba xgg = sg at *
            generalize Pl.ba xe = se at *
            generalize Pl.ba nml = nm at *
            go_enter Tryz.func24, Tryz.ntmps24
            go_wp2_with fail
            refine (K1.out _ (HB.out _)).mono ?_
            rintro e' w2 ⟨rfl, hb2⟩
            have d0 := C.out _ _ 0 _ hb2 (by simp) (by simp [go_sem]; rfl)
            have d1 := C.out _ _ 1 _ hb2 (by simp) (by simp [go_sem]; rfl)
            have d3 := C.out _ _ 3 _ hb2 (by simp) (by simp [go_sem]; rfl)
            have B2 := hideP ((HB.out _).trans (hb2.mono (by simp)))
            have z2 : w.heap.size < w2.heap.size := Nat.lt_of_lt_of_le (by simp) hb2.size
            clear hb2
            go_wp2_with fail
            refine (K2.out _ B2.out).mono ?_
            rintro e' w3 ⟨rfl, hb3⟩
            have e0 := C.out _ _ 0 _ hb3 z2 d0
            have e1 := C.out _ _ 1 _ hb3 z2 d1
            have e3 := C.out _ _ 3 _ hb3 z2 d3
            have B3 := hideP (B2.out.trans (hb3.mono B2.out.size))
            have z3 : w.heap.size < w3.heap.size := Nat.lt_of_lt_of_le z2 hb3.size
            clear hb3 d0 d1 d3
            go_wp2_with fail
            go_quiet (fail)
            go_wp2
            go_ret2
            exact FN.out _ _ HR.out (below_drewN B3.out _)
      have f1 : (kk == 1) = false := by simp [k1]
      by_cases k2 : kk = 2
      · subst k2
        clear f1 k1
        have HS1 := hideP (show Pl.stx Pl.nt s = if z = 2 ∧ G = 0 then some (nml ++ [32, 58, 61, 32] ++ xe) else none by rw [HS.out, if_neg (by decide), if_pos rfl])
        clear HS
        by_cases hz : z = 2
        · refine (stt_2a (Pl.ba nml) (Pl.ba xe) (Pl.ba xgg) a1 a2 cl c1 G c2 z w hz HLL.out.1 HLL.out.2.1 HLL.out.2.2 hgl K1.out K2.out KW.out).mono ?_
          rintro e' w' ⟨rfl, hb⟩
          by_cases hG0 : G = 0
          · rw [show ((G : Int) == 0) = true by simp [hG0]]
            exact FY.out w' _ _ (by rw [HS1.out, if_pos ⟨hz, hG0⟩]) X2.out hb
          · rw [show ((G : Int) == 0) = false by simp [hG0]]
            exact FN.out w' _ (by rw [HS1.out, if_neg (fun h => hG0 h.2)]) hb
        · refine (stt_2b (Pl.ba nml) (Pl.ba xe) (Pl.ba xgg) a1 a2 cl c1 G c2 z w hz HLL.out.1 HLL.out.2.1 HLL.out.2.2 hgl K1.out K2.out KW.out).mono ?_
          rintro e' w' ⟨rfl, hb⟩
          exact FN.out w' _ (by rw [HS1.out, if_neg (fun h => hz h.1)]) hb
      have f2 : (kk == 2) = false := by simp [k2]
      by_cases k3 : kk = 3
      · subst k3
        clear f1 k1 f2 k2
        have HS1 := hideP (show Pl.stx Pl.nt s = if z = 3 ∧ nml ≠ Pl.selfW then some (nml ++ [32, 58, 61, 32, 123] ++ xgg ++ xe ++ [125]) else none by rw [HS.out, if_neg (by decide), if_neg (by decide), if_pos rfl])
        clear HS
        by_cases hz : z = 3
        · refine (stt_3a (Pl.ba nml) (Pl.ba xe) (Pl.ba xgg) a1 a2 cl c1 G c2 z ns w hz hqs HLL.out.1 HLL.out.2.1 HLL.out.2.2 hgl K1.out K2.out KW.out).mono ?_
          rintro e' w' ⟨rfl, hb⟩
          cases ns
          · exact FY.out w' _ _ (by rw [HS1.out, if_pos ⟨hz, of_decide_eq_false HDS.out⟩]) X3.out hb
          · exact FN.out w' _ (by rw [HS1.out, if_neg (fun h => h.2 (of_decide_eq_true HDS.out))]) hb
        · refine (stt_3b (Pl.ba nml) (Pl.ba xe) (Pl.ba xgg) a1 a2 cl c1 G c2 z w hz HLL.out.1 HLL.out.2.1 HLL.out.2.2 hgl K1.out K2.out KW.out).mono ?_
          rintro e' w' ⟨rfl, hb⟩
          exact FN.out w' _ (by rw [HS1.out, if_neg (fun h => hz h.1)]) hb
      have f3 : (kk == 3) = false := by simp [k3]
      have HR := hideP (show Pl.stx Pl.nt s = none by rw [HS.out, if_neg k1, if_neg k2, if_neg k3])
      clear HS k1 k2 k3 HDN HDS X2 X3
      generalize Pl.ba xgg = sg at *
      generalize Pl.ba xe = se at *
      generalize Pl.ba nml = nm at *
      go_enter Tryz.func24, Tryz.ntmps24
      go_wp2_with fail
      refine (K1.out _ (HB.out _)).mono ?_
      rintro e' w2 ⟨rfl, hb2⟩
      have d0 := C.out _ _ 0 _ hb2 (by simp) (by simp [go_sem]; rfl)
      have d1 := C.out _ _ 1 _ hb2 (by simp) (by simp [go_sem]; rfl)
      have d3 := C.out _ _ 3 _ hb2 (by simp) (by simp [go_sem]; rfl)
      have B2 := hideP ((HB.out _).trans (hb2.mono (by simp)))
      have z2 : w.heap.size < w2.heap.size := Nat.lt_of_lt_of_le (by simp) hb2.size
      clear hb2
      go_wp2_with fail
      refine (K2.out _ B2.out).mono ?_
      rintro e' w3 ⟨rfl, hb3⟩
      have e0 := C.out _ _ 0 _ hb3 z2 d0
      have e1 := C.out _ _ 1 _ hb3 z2 d1
      have e3 := C.out _ _ 3 _ hb3 z2 d3
      have B3 := hideP (B2.out.trans (hb3.mono B2.out.size))
      have z3 : w.heap.size < w3.heap.size := Nat.lt_of_lt_of_le z2 hb3.size
      clear hb3 d0 d1 d3
      go_wp2_with fail
      go_ret2
      exact FN.out _ _ HR.out B3.out
end Go.Proofs.YtljkolffjjhgeaaGreatDoor
