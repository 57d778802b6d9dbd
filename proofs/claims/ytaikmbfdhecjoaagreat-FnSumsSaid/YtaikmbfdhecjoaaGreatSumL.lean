import Derived.Test.YtaikmbfdhecjoaaGreatSumA
import Derived.Test.YtaikmbfdhecjoaaGreatSumP
import Derived.Test.YtaikmbfdhecjoaaGreatRows2
import Derived.Test.YtaikmbfdhecjoaaGreatSpecSG
import Derived.Test.YtaikmbfdhecjoaaGreatMonT
import Derived.Test.YtaikmbfdhecjoaaGreatDyAG
import Derived.Test.YtaikmbfdhecjoaaGreatDyFG
import Derived.Test.YtaikmbfdhecjoaaGreatImI
import Derived.Test.YtaikmbfdhecjoaaGreatClIG
namespace Go.Proofs.YtaikmbfdhecjoaaGreat
open Go.RowKit
set_option linter.unusedVariables false

/-- what the law leaves -/
def LPost (w : World) (e : Ending) (w' : World) : Prop := e = .returned (.bool true) ∧ Below w.heap.size w w'

set_option maxRecDepth 100000 in
set_option maxHeartbeats 8000000 in
/-- laws.FnSums -/
theorem sums_law (ao : Option Addr) (n cap : Nat) (w : World) (hcap : n ≤ cap) (hm : cap ≤ 9223372036854775807) (h : RdB w.heap.size w ao n) :
    Calls Tryz.prog 3 #[.slice ao n cap] w (LPost w) := by
  by_cases hn : n ≤ 1048576
  · have KT := hideP (twoArrays_any ao n cap w hn hcap hm h)
    have hgt : ¬ ((1048576 : Int) < (n : Int)) := by omega
    obtain ⟨op, hop⟩ : ∃ op : Nat, op = 1 + n % 10 := ⟨_, rfl⟩
    obtain ⟨gg, hgg⟩ : ∃ gg : Nat, gg = 1 + n / 10 % 10 := ⟨_, rfl⟩
    have op1 : 1 ≤ op ∧ op < 11 := by omega
    have gg1 : 1 ≤ gg ∧ gg < 11 := by omega
    have eop : IntKind.i64.wrap ((1 : Int) + (n : Int) % 10) = (op : Int) := by rw [IntKind.wrap_i64]; omega
    have egg : IntKind.i64.wrap ((1 : Int) + (n : Int) / 10 % 10) = (gg : Int) := by rw [IntKind.wrap_i64]; omega
    have OP1 := hideP op1
    have GG1 := hideP gg1
    clear h hop hgg op1 gg1
    go_enter Tryz.func3, Tryz.ntmps3
    go_wp2_with fail
    refine KT.out.mono ?_
    rintro e w1 ⟨v0, v1, v2, v3, sh, da, db, rfl, oka, okb, r0, r1, r2, r3, hb1⟩
    obtain ⟨g0, q0, e0, hq0, hq0'⟩ := r0.form
    obtain ⟨g1, q1, e1, hq1, hq1'⟩ := r1.form
    obtain ⟨g2, q2, e2, hq2, hq2'⟩ := r2.form
    obtain ⟨g3, q3, e3, hq3, hq3'⟩ := r3.form
    have rd0 := (r0.own).rd
    have rd1 := (r1.own).rd
    have rd2 := (r2.own).rd
    have rd3 := (r3.own).rd
    subst e0 e1 e2 e3
    have OKA := hideP oka
    have OKB := hideP okb
    have LS : Hid (sh.length ≤ 3) := (Pl.ok_max oka).1
    have LD : Hid (da.length ≤ 1000) := (Pl.ok_max oka).2
    have LB : Hid (db.length ≤ 1000) := (Pl.ok_max okb).2
    have Q0 := hideP (And.intro hq0 hq0')
    have Q1 := hideP (And.intro hq1 hq1')
    obtain ⟨wA, hwA⟩ : ∃ wA, wA = ((w1.alloc (.cells #[.slice (some ⟨g0, 0, none⟩) sh.length q0, .slice (some ⟨g1, 0, none⟩) da.length q1] 25)).alloc (.cells #[.slice (some ⟨g2, 0, none⟩) sh.length q2, .slice (some ⟨g3, 0, none⟩) db.length q3] 25)) := ⟨_, rfl⟩
    have V1 := va_two w1 _ _ _ _ sh da sh db rd0 rd1 rd2 rd3 wA hwA
    have VA0 := hideP V1.1
    have VB0 := hideP V1.2.1
    have BB0 : Hid (Below w.heap.size w wA) := hb1.trans (V1.2.2.mono hb1.size)
    clear r0 r1 r2 r3 rd0 rd1 rd2 rd3 hb1 V1 oka okb hq0 hq0' hq1 hq1' hq2 hq2' hq3 hq3' KT hgt
    go_upto_region 6 with fail
    rw [← hwA]
    clear hwA
    obtain ⟨rc, rS, rD, hred⟩ : ∃ rc rS rD, Pl.redM (op : Int) sh da = (rc, rS, rD) := ⟨_, _, _, rfl⟩
    obtain ⟨sc, sS, sD, hsca⟩ : ∃ sc sS sD, Pl.scaM (op : Int) sh da = (sc, sS, sD) := ⟨_, _, _, rfl⟩
    have HRED := hideP hred
    have HSCA := hideP hsca
    clear hred hsca
    generalize w1.heap.size = bA at *
    -- step 1
    have cc0 := VA0.out.c0
    have cd0 := VA0.out.c1
    go_wp2_with fail
    clear cc0 cd0
    refine (specR_faceG (op : Int) g0 q0 g1 q1 sh da _ (Nat.le_trans LS.out (by decide)) (Nat.le_trans LD.out (by decide)) Q0.out.1 Q0.out.2 Q1.out.1 Q1.out.2 VA0.out.r0 VA0.out.r1 rc rS rD HRED.out).mono ?_
    rintro e wx1 ⟨hbx, u0, u1, rfl, hres⟩
    obtain ⟨x1, y1, z1, t1, e0, e1⟩ := hres.forms
    subst e0
    subst e1
    obtain ⟨wn1, hwn⟩ : ∃ wn, wn = (wx1.alloc (.cells #[.slice x1 rS.length y1, .slice z1 rD.length t1] 25)) := ⟨_, rfl⟩
    have NV := va_new wx1 _ _ rS rD hres.1.rd hres.2.1.rd wn1 hwn
    have BX := hbx.trans (NV.2.mono hbx.size)
    have VP1 := hideP NV.1
    have OVP := hideP (And.intro hres.1 hres.2.1)
    have BB1 : Hid (Below w.heap.size w wn1) := BB0.out.trans (BX.mono BB0.out.size)
    have VA1 := hideP (VA0.out.keep BX)
    have VB1 := hideP (VB0.out.keep BX)
    clear VA0 VB0 BB0 NV BX hbx hres
    go_upto_region 7 with fail
    rw [← hwn]
    clear hwn
    generalize wx1.heap.size = bVP at *
    -- step 2
    have cc0 := VA1.out.c0
    have cd0 := VA1.out.c1
    go_wp2_with fail
    clear cc0 cd0
    refine (specS_faceG (op : Int) g0 q0 g1 q1 sh da _ (Nat.le_trans LS.out (by decide)) (Nat.le_trans LD.out (by decide)) Q0.out.1 Q0.out.2 Q1.out.1 Q1.out.2 VA1.out.r0 VA1.out.r1 sc sS sD HSCA.out).mono ?_
    rintro e wx2 ⟨hbx, u0, u1, rfl, hres⟩
    obtain ⟨x2, y2, z2, t2, e0, e1⟩ := hres.forms
    subst e0
    subst e1
    obtain ⟨wn2, hwn⟩ : ∃ wn, wn = (wx2.alloc (.cells #[.slice x2 sS.length y2, .slice z2 sD.length t2] 25)) := ⟨_, rfl⟩
    have NV := va_new wx2 _ _ sS sD hres.1.rd hres.2.1.rd wn2 hwn
    have BX := hbx.trans (NV.2.mono hbx.size)
    have VQ2 := hideP NV.1
    have OVQ := hideP (And.intro hres.1 hres.2.1)
    have BB2 : Hid (Below w.heap.size w wn2) := BB1.out.trans (BX.mono BB1.out.size)
    have VA2 := hideP (VA1.out.keep BX)
    have VB2 := hideP (VB1.out.keep BX)
    have VP2 := hideP (VP1.out.keep BX)
    clear VA1 VB1 VP1 BB1 NV BX hbx hres
    go_upto_region 8 with fail
    rw [← hwn]
    clear hwn
    generalize wx2.heap.size = bVQ at *
    -- step 3
    have cc0 := VA2.out.c0
    have cd0 := VA2.out.c1
    go_wp2_with fail
    clear cc0 cd0
    refine (reduce_faceG (op : Int) (some ⟨g0, 0, none⟩) q0 (some ⟨g1, 0, none⟩) q1 sh da _ (Nat.le_trans LS.out (by decide)) (Nat.le_trans LD.out (by decide)) Q0.out.1 Q0.out.2 Q1.out.1 (fun _ => Q1.out.2) VA2.out.r0 VA2.out.r1 rc rS rD HRED.out).mono ?_
    rintro e wx3 ⟨hbx, u0, u1, rfl, hres⟩
    obtain ⟨x3, y3, z3, t3, e0, e1⟩ := hres.forms
    subst e0
    subst e1
    obtain ⟨wn3, hwn⟩ : ∃ wn, wn = (wx3.alloc (.cells #[.slice x3 rS.length y3, .slice z3 rD.length t3] 25)) := ⟨_, rfl⟩
    have NV := va_new wx3 _ _ rS rD hres.1.rd hres.2.1.rd wn3 hwn
    have BX := hbx.trans (NV.2.mono hbx.size)
    have VR3 := hideP NV.1
    have OVR := hideP (And.intro hres.1 hres.2.1)
    have BB3 : Hid (Below w.heap.size w wn3) := BB2.out.trans (BX.mono BB2.out.size)
    have VA3 := hideP (VA2.out.keep BX)
    have VB3 := hideP (VB2.out.keep BX)
    have VP3 := hideP (VP2.out.keep BX)
    have VQ3 := hideP (VQ2.out.keep BX)
    clear VA2 VB2 VP2 VQ2 BB2 NV BX hbx hres
    go_upto_region 9 with fail
    rw [← hwn]
    clear hwn
    generalize wx3.heap.size = bVR at *
    -- step 4
    have cc0 := VA3.out.c0
    have cd0 := VA3.out.c1
    go_wp2_with fail
    clear cc0 cd0
    refine (scan_faceG (op : Int) g0 q0 g1 q1 sh da _ (Nat.le_trans LS.out (by decide)) (Nat.le_trans LD.out (by decide)) Q0.out.1 Q0.out.2 Q1.out.1 Q1.out.2 VA3.out.r0 VA3.out.r1 sc sS sD HSCA.out).mono ?_
    rintro e wx4 ⟨hbx, u0, u1, rfl, hres⟩
    obtain ⟨x4, y4, z4, t4, e0, e1⟩ := hres.forms
    subst e0
    subst e1
    obtain ⟨wn4, hwn⟩ : ∃ wn, wn = (wx4.alloc (.cells #[.slice x4 sS.length y4, .slice z4 sD.length t4] 25)) := ⟨_, rfl⟩
    have NV := va_new wx4 _ _ sS sD hres.1.rd hres.2.1.rd wn4 hwn
    have BX := hbx.trans (NV.2.mono hbx.size)
    have VS4 := hideP NV.1
    have OVS := hideP (And.intro hres.1 hres.2.1)
    have BB4 : Hid (Below w.heap.size w wn4) := BB3.out.trans (BX.mono BB3.out.size)
    have VA4 := hideP (VA3.out.keep BX)
    have VB4 := hideP (VB3.out.keep BX)
    have VP4 := hideP (VP3.out.keep BX)
    have VQ4 := hideP (VQ3.out.keep BX)
    have VR4 := hideP (VR3.out.keep BX)
    clear VA3 VB3 VP3 VQ3 VR3 BB3 NV BX hbx hres
    go_upto_region 10 with fail
    rw [← hwn]
    clear hwn
    generalize wx4.heap.size = bVS at *
    clear VP4 VQ4 OVP OVQ OVR
    have hne1 : (rc != rc) = false := by simp
    have hne2 : (sc != sc) = false := by simp
    go_upto_region 12 with fail
    clear hne1 hne2
    obtain ⟨P, hP⟩ : ∃ P : Bool, P = (decide (sc = 0) && decide (rc = 0) && decide (0 < sh.length) && decide (0 < sh.getD 0 0)) := ⟨_, rfl⟩
    have HP := hideP hP
    clear hP
    go_cut [100] (fun s100 wx => wx = wn4 ∧ s100 = .bool P)
    case first =>
      have c0 := VA4.out.c0
      by_cases s0 : sc = 0
      · have hs0 : (sc == 0) = true := by rw [s0]; rfl
        by_cases r0 : rc = 0
        · have hr0 : (rc == 0) = true := by rw [r0]; rfl
          by_cases l0 : 0 < sh.length
          · obtain ⟨hlt0, hce⟩ := rd_cell VA4.out.r0 (i := 0) l0
            rw [Nat.add_zero] at hce
            have l0' : (0 : Int) < (sh.length : Int) := by omega
            by_cases n0 : 0 < sh.getD 0 0
            · have e : P = true := by rw [HP.out, decide_eq_true s0, decide_eq_true r0, decide_eq_true l0, decide_eq_true n0]; rfl
              have E := hideP e
              generalize sh.getD 0 0 = x at *
              clear e s0 r0
              go_wp2_with fail
              go_meet
              case rel => exact ⟨rfl, by rw [E.out]⟩
            · have e : P = false := by rw [HP.out, decide_eq_true s0, decide_eq_true r0, decide_eq_true l0, decide_eq_false n0]; rfl
              have E := hideP e
              generalize sh.getD 0 0 = x at *
              clear e s0 r0
              go_wp2_with fail
              go_meet
              case rel => exact ⟨rfl, by rw [E.out]⟩
          · have e : P = false := by rw [HP.out, decide_eq_false l0]; simp
            have E := hideP e
            have l0' : ¬ ((0 : Int) < (sh.length : Int)) := by omega
            clear e s0 r0
            go_wp2_with fail
            go_meet
            case rel => exact ⟨rfl, by rw [E.out]⟩
        · have e : P = false := by rw [HP.out, decide_eq_false r0]; simp
          have E := hideP e
          have hr0 : (rc == 0) = false := by rw [beq_eq_false_iff_ne]; exact r0
          clear e s0
          go_wp2_with fail
          go_meet
          case rel => exact ⟨rfl, by rw [E.out]⟩
      · have e : P = false := by rw [HP.out, decide_eq_false s0]; simp
        have E := hideP e
        have hs0 : (sc == 0) = false := by rw [beq_eq_false_iff_ne]; exact s0
        clear e
        go_wp2_with fail
        go_meet
        case rel => exact ⟨rfl, by rw [E.out]⟩
    case rest =>
      obtain ⟨rfl, rfl⟩ := hcut
      rename World => wn4
      go_upto_if 100 with fail
      go_cut [15, 16, 17, 18, 19, 20, 21, 22] (fun _ _ _ _ _ _ _ _ wx => Hid (Va bA (.slice (some ⟨g0, 0, none⟩) sh.length q0) (.slice (some ⟨g1, 0, none⟩) da.length q1) sh da wx) ∧ Hid (Va (bA + 1) (.slice (some ⟨g2, 0, none⟩) sh.length q2) (.slice (some ⟨g3, 0, none⟩) db.length q3) sh db wx) ∧ Hid (Below w.heap.size w wx))
      case first =>
        cases hPv : P with
        | false =>
          clear hPv
          go_wp2_with fail
          go_meet
          case rel => exact ⟨VA4, VB4, BB4⟩
        | true =>
          have hp := HP.out
          rw [hPv] at hp
          have hp' := hp.symm
          simp only [Bool.and_eq_true, decide_eq_true_eq] at hp'
          obtain ⟨⟨⟨s0, r0⟩, l0⟩, n0⟩ := hp'
          subst s0
          subst r0
          obtain ⟨SC, LA, FI, k1, k2, k3, k4, k5, k6, k7, k8⟩ := Pl.sums_rows op OP1.out.1 OP1.out.2 OKA.out (by omega) n0 (by rw [HSCA.out]) (by rw [HRED.out])
          have e1 := k1.symm.trans HSCA.out
          have e2 := k6.symm.trans HRED.out
          simp only [Prod.mk.injEq, true_and] at e1 e2
          obtain ⟨rfl, rfl⟩ := e1
          obtain ⟨rfl, rfl⟩ := e2
          have K3 := hideP k3
          have K5 := hideP k5
          have K7 := hideP k7
          have K8 := hideP k8
          have hL1 := (Pl.ok_max k4).1
          have LT : Hid (sh.tail.length ≤ 3) := by have := LS.out; show _ ≤ _; simp; omega
          have L1 : Hid ((1 :: sh.tail).length ≤ 3) := hL1
          have L2 : Hid (LA.length ≤ 1000) := (Pl.ok_max k4).2
          have L3 : Hid (SC.length ≤ 1000) := (Pl.ok_max k2).2
          have L0 := hideP l0
          have LF : Hid (FI.length ≤ 1000) := by
            obtain ⟨hft, n', s', en, es, n1', n2', hl'⟩ := Pl.ok_rows OKA.out (by omega) (by omega)
            have := Pl.take_one OKA.out (by omega) en n1' hft es hl'
            have e := K8.out.symm.trans this
            simp only [Prod.mk.injEq, true_and] at e
            have h1 := LD.out
            show _ ≤ _
            rw [e, List.length_take]
            omega
          clear k1 k2 k3 k4 k5 k6 k7 k8 hp hPv l0 n0 hL1
          generalize hS1 : ((1 : Int) :: sh.tail) = S1 at *
          have P1 : Hid (0 < S1.length) := by show _ < _; rw [← hS1]; simp
          clear hS1
          generalize sh.tail = ST at *
          -- step 5
          have AL := (Below.refl wn4.heap.size wn4).alloc (Nat.le_refl _) (.cells #[.int .i64 (-1)] 3)
          have VT0 := hideP (VS4.out.keep AL)
          have cc0 := VT0.out.c0
          have cd0 := VT0.out.c1
          have HAL := hideP AL
          clear AL
          go_wp2_with fail
          clear cc0 cd0
          refine (take_faceG none 0 (some ⟨wn4.heap.size, 0, none⟩) 1 x4 y4 z4 t4 [] [-1] sh SC _ (by decide) (by decide) (Nat.le_trans LS.out (by decide)) (Nat.le_trans L3.out (by decide)) (rd_zero _ _ _ _ _ rfl) (lit_rd wn4 (-1)) VT0.out.r0 VT0.out.r1 (own_cap1 OVS.out.1 L0.out).1 (own_cap1 OVS.out.1 L0.out).2 (own_cap OVS.out.2).1 (own_cap OVS.out.2).2 _ _ _ K3.out).mono ?_
          rintro e wx5 ⟨hbx, u0, u1, rfl, hres⟩
          obtain ⟨x5, y5, z5, t5, e0, e1⟩ := hres.forms
          subst e0
          subst e1
          replace hbx := HAL.out.trans (hbx.mono HAL.out.size)
          clear HAL VT0
          obtain ⟨wn5, hwn⟩ : ∃ wn, wn = (wx5.alloc (.cells #[.slice x5 S1.length y5, .slice z5 LA.length t5] 25)) := ⟨_, rfl⟩
          have NV := va_new wx5 _ _ S1 LA hres.1.rd hres.2.1.rd wn5 hwn
          have BX := hbx.trans (NV.2.mono hbx.size)
          have VL5 := hideP NV.1
          have OVL := hideP (And.intro hres.1 hres.2.1)
          have BB5 : Hid (Below w.heap.size w wn5) := BB4.out.trans (BX.mono BB4.out.size)
          have VA5 := hideP (VA4.out.keep BX)
          have VB5 := hideP (VB4.out.keep BX)
          have VR5 := hideP (VR4.out.keep BX)
          have VS5 := hideP (VS4.out.keep BX)
          clear VA4 VB4 VR4 VS4 BB4 NV BX hbx hres
          go_upto_region 14 with fail
          rw [← hwn]
          clear hwn
          generalize wx5.heap.size = bVL at *
          -- step 6
          have cc0 := VL5.out.c0
          have cd0 := VL5.out.c1
          go_wp2_with fail
          clear cc0 cd0
          refine (reduce_faceG 7 x5 y5 z5 t5 S1 LA _ (Nat.le_trans L1.out (by decide)) (Nat.le_trans L2.out (by decide)) (own_cap1 OVL.out.1 P1.out).1 (own_cap1 OVL.out.1 P1.out).2 (own_cap OVL.out.2).1 (own_cap OVL.out.2).2 VL5.out.r0 VL5.out.r1 _ _ _ K5.out).mono ?_
          rintro e wx6 ⟨hbx, u0, u1, rfl, hres⟩
          obtain ⟨x6, y6, z6, t6, e0, e1⟩ := hres.forms
          subst e0
          subst e1
          obtain ⟨wn6, hwn⟩ : ∃ wn, wn = (wx6.alloc (.cells #[.slice x6 ST.length y6, .slice z6 LA.length t6] 25)) := ⟨_, rfl⟩
          have NV := va_new wx6 _ _ ST LA hres.1.rd hres.2.1.rd wn6 hwn
          have BX := hbx.trans (NV.2.mono hbx.size)
          have VW6 := hideP NV.1
          have OVW := hideP (And.intro hres.1 hres.2.1)
          have BB6 : Hid (Below w.heap.size w wn6) := BB5.out.trans (BX.mono BB5.out.size)
          have VA6 := hideP (VA5.out.keep BX)
          have VB6 := hideP (VB5.out.keep BX)
          have VR6 := hideP (VR5.out.keep BX)
          have VS6 := hideP (VS5.out.keep BX)
          have VL6 := hideP (VL5.out.keep BX)
          clear VA5 VB5 VR5 VS5 VL5 BB5 NV BX hbx hres
          go_upto_region 15 with fail
          rw [← hwn]
          clear hwn
          generalize wx6.heap.size = bVW at *
          -- step 7
          have AL := (Below.refl wn6.heap.size wn6).alloc (Nat.le_refl _) (.cells #[.int .i64 (1)] 3)
          have VT0 := hideP (VS6.out.keep AL)
          have cc0 := VT0.out.c0
          have cd0 := VT0.out.c1
          have HAL := hideP AL
          clear AL
          go_wp2_with fail
          clear cc0 cd0
          refine (take_faceG none 0 (some ⟨wn6.heap.size, 0, none⟩) 1 x4 y4 z4 t4 [] [1] sh SC _ (by decide) (by decide) (Nat.le_trans LS.out (by decide)) (Nat.le_trans L3.out (by decide)) (rd_zero _ _ _ _ _ rfl) (lit_rd wn6 (1)) VT0.out.r0 VT0.out.r1 (own_cap1 OVS.out.1 L0.out).1 (own_cap1 OVS.out.1 L0.out).2 (own_cap OVS.out.2).1 (own_cap OVS.out.2).2 _ _ _ K7.out).mono ?_
          rintro e wx7 ⟨hbx, u0, u1, rfl, hres⟩
          obtain ⟨x7, y7, z7, t7, e0, e1⟩ := hres.forms
          subst e0
          subst e1
          replace hbx := HAL.out.trans (hbx.mono HAL.out.size)
          clear HAL VT0
          obtain ⟨wn7, hwn⟩ : ∃ wn, wn = (wx7.alloc (.cells #[.slice x7 S1.length y7, .slice z7 FI.length t7] 25)) := ⟨_, rfl⟩
          have NV := va_new wx7 _ _ S1 FI hres.1.rd hres.2.1.rd wn7 hwn
          have BX := hbx.trans (NV.2.mono hbx.size)
          have VF7 := hideP NV.1
          have OVF := hideP (And.intro hres.1 hres.2.1)
          have BB7 : Hid (Below w.heap.size w wn7) := BB6.out.trans (BX.mono BB6.out.size)
          have VA7 := hideP (VA6.out.keep BX)
          have VB7 := hideP (VB6.out.keep BX)
          have VR7 := hideP (VR6.out.keep BX)
          have VS7 := hideP (VS6.out.keep BX)
          have VL7 := hideP (VL6.out.keep BX)
          have VW7 := hideP (VW6.out.keep BX)
          clear VA6 VB6 VR6 VS6 VL6 VW6 BB6 NV BX hbx hres
          go_upto_region 16 with fail
          rw [← hwn]
          clear hwn
          generalize wx7.heap.size = bVF at *
          -- step 8
          have AL := (Below.refl wn7.heap.size wn7).alloc (Nat.le_refl _) (.cells #[.int .i64 (1)] 3)
          have VT0 := hideP (VA7.out.keep AL)
          have cc0 := VT0.out.c0
          have cd0 := VT0.out.c1
          have HAL := hideP AL
          clear AL
          go_wp2_with fail
          clear cc0 cd0
          refine (take_faceG none 0 (some ⟨wn7.heap.size, 0, none⟩) 1 (some ⟨g0, 0, none⟩) q0 (some ⟨g1, 0, none⟩) q1 [] [1] sh da _ (by decide) (by decide) (Nat.le_trans LS.out (by decide)) (Nat.le_trans LD.out (by decide)) (rd_zero _ _ _ _ _ rfl) (lit_rd wn7 (1)) VT0.out.r0 VT0.out.r1 Q0.out.1 Q0.out.2 Q1.out.1 (fun _ => Q1.out.2) _ _ _ K8.out).mono ?_
          rintro e wx8 ⟨hbx, u0, u1, rfl, hres⟩
          obtain ⟨x8, y8, z8, t8, e0, e1⟩ := hres.forms
          subst e0
          subst e1
          replace hbx := HAL.out.trans (hbx.mono HAL.out.size)
          clear HAL VT0
          obtain ⟨wn8, hwn⟩ : ∃ wn, wn = (wx8.alloc (.cells #[.slice x8 S1.length y8, .slice z8 FI.length t8] 25)) := ⟨_, rfl⟩
          have NV := va_new wx8 _ _ S1 FI hres.1.rd hres.2.1.rd wn8 hwn
          have BX := hbx.trans (NV.2.mono hbx.size)
          have VH8 := hideP NV.1
          have OVH := hideP (And.intro hres.1 hres.2.1)
          have BB8 : Hid (Below w.heap.size w wn8) := BB7.out.trans (BX.mono BB7.out.size)
          have VA8 := hideP (VA7.out.keep BX)
          have VB8 := hideP (VB7.out.keep BX)
          have VR8 := hideP (VR7.out.keep BX)
          have VS8 := hideP (VS7.out.keep BX)
          have VL8 := hideP (VL7.out.keep BX)
          have VW8 := hideP (VW7.out.keep BX)
          have VF8 := hideP (VF7.out.keep BX)
          clear VA7 VB7 VR7 VS7 VL7 VW7 VF7 BB7 NV BX hbx hres
          go_upto_region 17 with fail
          rw [← hwn]
          clear hwn
          generalize wx8.heap.size = bVH at *
          -- same 9
          have cc0 := VW8.out.c0
          have cd0 := VW8.out.c1
          have cc1 := VR8.out.c0
          have cd1 := VR8.out.c1
          go_wp2_with fail
          clear cc0 cd0 cc1 cd1
          refine (same_yes _ _ _ _ _ _ _ (Nat.le_trans LT.out (by decide)) (Nat.le_trans L2.out (by decide)) VW8.out.r0 VW8.out.r1 VR8.out.r0 VR8.out.r1).mono ?_
          rintro e wn9 ⟨rfl, hbx⟩
          have BB9 : Hid (Below w.heap.size w wn9) := BB8.out.trans (hbx.mono BB8.out.size)
          have VA9 := hideP (VA8.out.keep hbx)
          have VB9 := hideP (VB8.out.keep hbx)
          have VR9 := hideP (VR8.out.keep hbx)
          have VS9 := hideP (VS8.out.keep hbx)
          have VL9 := hideP (VL8.out.keep hbx)
          have VW9 := hideP (VW8.out.keep hbx)
          have VF9 := hideP (VF8.out.keep hbx)
          have VH9 := hideP (VH8.out.keep hbx)
          clear VA8 VB8 VR8 VS8 VL8 VW8 VF8 VH8 BB8 hbx
          -- same 10
          have cc0 := VF9.out.c0
          have cd0 := VF9.out.c1
          have cc1 := VH9.out.c0
          have cd1 := VH9.out.c1
          go_wp2_with fail
          clear cc0 cd0 cc1 cd1
          refine (same_yes _ _ _ _ _ _ _ (Nat.le_trans L1.out (by decide)) (Nat.le_trans LF.out (by decide)) VF9.out.r0 VF9.out.r1 VH9.out.r0 VH9.out.r1).mono ?_
          rintro e wn10 ⟨rfl, hbx⟩
          have BB10 : Hid (Below w.heap.size w wn10) := BB9.out.trans (hbx.mono BB9.out.size)
          have VA10 := hideP (VA9.out.keep hbx)
          have VB10 := hideP (VB9.out.keep hbx)
          have VR10 := hideP (VR9.out.keep hbx)
          have VS10 := hideP (VS9.out.keep hbx)
          have VL10 := hideP (VL9.out.keep hbx)
          have VW10 := hideP (VW9.out.keep hbx)
          have VF10 := hideP (VF9.out.keep hbx)
          have VH10 := hideP (VH9.out.keep hbx)
          clear VA9 VB9 VR9 VS9 VL9 VW9 VF9 VH9 BB9 hbx
          go_wp2_with fail
          go_meet
          case rel => exact ⟨VA10, VB10, BB10⟩
      case rest =>
        obtain ⟨VA20, VB20, BB20⟩ := hcut
        rename World => wn20
        clear VA4 VB4 VR4 VS4 BB4 HP HRED HSCA OVS
        obtain ⟨NV, hNV⟩ : ∃ NV : List Int, NV = [(da.length : Int)] := ⟨_, rfl⟩
        have hlb : db.length = da.length := (Pl.ok_lens OKB.out OKA.out)
        have RA : Hid (Pl.mo8 (fun _ da => ((0 : Int), [(da.length : Int)], da)) 3 sh da = (0, NV, da)) := by
          show _ = _
          rw [Pl.mo8_yes ⟨by decide, by decide, OKA.out⟩, hNV]
        have RB : Hid (Pl.mo8 (fun _ da => ((0 : Int), [(da.length : Int)], da)) 3 sh db = (0, NV, db)) := by
          show _ = _
          rw [Pl.mo8_yes ⟨by decide, by decide, OKB.out⟩, hNV, hlb]
        have LN : Hid (NV.length ≤ 3 ∧ 0 < NV.length) := by rw [hNV]; exact ⟨by simp, by simp⟩
        have HLB := hideP hlb
        have HNV := hideP hNV
        clear hlb hNV
        -- step 21
        have cc0 := VA20.out.c0
        have cd0 := VA20.out.c1
        go_wp2_with fail
        clear cc0 cd0
        refine (ravel_faceG (some ⟨g0, 0, none⟩) q0 (some ⟨g1, 0, none⟩) q1 sh da _ (Nat.le_trans LS.out (by decide)) (Nat.le_trans LD.out (by decide)) VA20.out.r0 VA20.out.r1 _ _ _ RA.out).mono ?_
        rintro e wx21 ⟨hbx, u0, u1, rfl, hres⟩
        obtain ⟨x21, y21, z21, t21, e0, e1⟩ := hres.forms
        subst e0
        subst e1
        obtain ⟨wn21, hwn⟩ : ∃ wn, wn = (wx21.alloc (.cells #[.slice x21 NV.length y21, .slice z21 da.length t21] 25)) := ⟨_, rfl⟩
        have NV := va_new wx21 _ _ NV da hres.1.rd hres.2.1.rd wn21 hwn
        have BX := hbx.trans (NV.2.mono hbx.size)
        have VX21 := hideP NV.1
        have OVX := hideP (And.intro hres.1 hres.2.1)
        have BB21 : Hid (Below w.heap.size w wn21) := BB20.out.trans (BX.mono BB20.out.size)
        have VA21 := hideP (VA20.out.keep BX)
        have VB21 := hideP (VB20.out.keep BX)
        clear VA20 VB20 BB20 NV BX hbx hres
        go_upto_region 20 with fail
        rw [← hwn]
        clear hwn
        generalize wx21.heap.size = bVX at *
        -- step 22
        have cc0 := VB21.out.c0
        have cd0 := VB21.out.c1
        go_wp2_with fail
        clear cc0 cd0
        refine (ravel_faceG (some ⟨g2, 0, none⟩) q2 (some ⟨g3, 0, none⟩) q3 sh db _ (Nat.le_trans LS.out (by decide)) (Nat.le_trans LB.out (by decide)) VB21.out.r0 VB21.out.r1 _ _ _ RB.out).mono ?_
        rintro e wx22 ⟨hbx, u0, u1, rfl, hres⟩
        obtain ⟨x22, y22, z22, t22, e0, e1⟩ := hres.forms
        subst e0
        subst e1
        obtain ⟨wn22, hwn⟩ : ∃ wn, wn = (wx22.alloc (.cells #[.slice x22 NV.length y22, .slice z22 db.length t22] 25)) := ⟨_, rfl⟩
        have NV := va_new wx22 _ _ NV db hres.1.rd hres.2.1.rd wn22 hwn
        have BX := hbx.trans (NV.2.mono hbx.size)
        have VY22 := hideP NV.1
        have OVY := hideP (And.intro hres.1 hres.2.1)
        have BB22 : Hid (Below w.heap.size w wn22) := BB21.out.trans (BX.mono BB21.out.size)
        have VA22 := hideP (VA21.out.keep BX)
        have VB22 := hideP (VB21.out.keep BX)
        have VX22 := hideP (VX21.out.keep BX)
        clear VA21 VB21 VX21 BB21 NV BX hbx hres
        go_upto_region 21 with fail
        rw [← hwn]
        clear hwn
        generalize wx22.heap.size = bVY at *
        have cx := VX22.out.c1
        have ca := VA22.out.c1
        by_cases h0 : da.length = 0
        · have h0' : (da.length : Int) = 0 := by omega
          have HB := hideP BB22.out
          generalize da.length = ld at *
          clear h0
          go_wp2_with fail
          go_ret
          exact ⟨rfl, HB.out⟩
        · have h0' : ¬ (da.length : Int) = 0 := by omega
          have hd0 : ((da.length : Int) == 0) = false := by rw [beq_eq_false_iff_ne]; exact h0'
          have H0 : Hid (0 < da.length) := by show _ < _; omega
          clear h0 h0'
          go_upto_region 25 with fail
          clear cx ca hd0
          have SI := hideP (Pl.sums_inner op gg da.length OP1.out.1 OP1.out.2 GG1.out.1 GG1.out.2 H0.out LD.out rfl HLB.out (fun x hx => Pl.ok_cell OKA.out hx) (fun x hx => Pl.ok_cell OKB.out hx))
          rw [← HNV.out] at SI
          obtain ⟨ic, iS, iD, hinn⟩ : ∃ ic iS iD, Pl.innD (op : Int) (gg : Int) NV da NV db = (ic, iS, iD) := ⟨_, _, _, rfl⟩
          obtain ⟨tc, tS, tD, heac⟩ : ∃ tc tS tD, Pl.dyM (Pl.each2M (Pl.twoM (gg : Int))) (gg : Int) NV da NV db = (tc, tS, tD) := ⟨_, _, _, rfl⟩
          have HIN := hideP hinn
          have HEA := hideP heac
          clear hinn heac
          have HDB : Hid (0 < db.length) := by rw [HLB.out]; exact H0.out
          clear VA22 VB22
          -- step 23
          have cc0 := VX22.out.c0
          have cd0 := VX22.out.c1
          have cc1 := VY22.out.c0
          have cd1 := VY22.out.c1
          go_wp2_with fail
          clear cc0 cd0 cc1 cd1
          refine (inner_faceG (op : Int) (gg : Int) x21 y21 z21 t21 x22 y22 z22 t22 NV da NV db _ (Nat.le_trans LN.out.1 (by decide)) (Nat.le_trans LD.out (by decide)) (Nat.le_trans LN.out.1 (by decide)) (Nat.le_trans LB.out (by decide)) VX22.out.r0 VX22.out.r1 VY22.out.r0 VY22.out.r1 (own_cap1 OVX.out.1 LN.out.2).1 (own_cap1 OVX.out.1 LN.out.2).2 (own_cap1 OVX.out.2 H0.out).1 (own_cap1 OVX.out.2 H0.out).2 (own_cap1 OVY.out.1 LN.out.2).1 (own_cap1 OVY.out.1 LN.out.2).2 (own_cap1 OVY.out.2 HDB.out).1 (own_cap1 OVY.out.2 HDB.out).2 ic iS iD HIN.out).mono ?_
          rintro e wx23 ⟨hbx, u0, u1, rfl, hres⟩
          obtain ⟨x23, y23, z23, t23, e0, e1⟩ := hres.forms
          subst e0
          subst e1
          obtain ⟨wn23, hwn⟩ : ∃ wn, wn = (wx23.alloc (.cells #[.slice x23 iS.length y23, .slice z23 iD.length t23] 25)) := ⟨_, rfl⟩
          have NV := va_new wx23 _ _ iS iD hres.1.rd hres.2.1.rd wn23 hwn
          have BX := hbx.trans (NV.2.mono hbx.size)
          have VI23 := hideP NV.1
          have OVI := hideP (And.intro hres.1 hres.2.1)
          have BB23 : Hid (Below w.heap.size w wn23) := BB22.out.trans (BX.mono BB22.out.size)
          have VX23 := hideP (VX22.out.keep BX)
          have VY23 := hideP (VY22.out.keep BX)
          clear VX22 VY22 BB22 NV BX hbx hres
          go_upto_region 26 with fail
          rw [← hwn]
          clear hwn
          generalize wx23.heap.size = bVI at *
          -- step 24
          have cc0 := VX23.out.c0
          have cd0 := VX23.out.c1
          have cc1 := VY23.out.c0
          have cd1 := VY23.out.c1
          go_wp2_with fail
          clear cc0 cd0 cc1 cd1
          refine (each2_face (gg : Int) _ _ _ _ NV da NV db _ (Nat.le_trans LN.out.1 (by decide)) (Nat.le_trans LD.out (by decide)) (Nat.le_trans LN.out.1 (by decide)) (Nat.le_trans LB.out (by decide)) VX23.out.r0 VX23.out.r1 VY23.out.r0 VY23.out.r1 tc tS tD HEA.out).mono ?_
          rintro e wx24 ⟨hbx, u0, u1, rfl, hres⟩
          obtain ⟨x24, y24, z24, t24, e0, e1⟩ := hres.forms
          subst e0
          subst e1
          obtain ⟨wn24, hwn⟩ : ∃ wn, wn = (wx24.alloc (.cells #[.slice x24 tS.length y24, .slice z24 tD.length t24] 25)) := ⟨_, rfl⟩
          have NV := va_new wx24 _ _ tS tD hres.1.rd hres.2.1.rd wn24 hwn
          have BX := hbx.trans (NV.2.mono hbx.size)
          have VM24 := hideP NV.1
          have OVM := hideP (And.intro hres.1 hres.2.1)
          have BB24 : Hid (Below w.heap.size w wn24) := BB23.out.trans (BX.mono BB23.out.size)
          have VX24 := hideP (VX23.out.keep BX)
          have VY24 := hideP (VY23.out.keep BX)
          have VI24 := hideP (VI23.out.keep BX)
          clear VX23 VY23 VI23 BB23 NV BX hbx hres
          go_upto_region 27 with fail
          rw [← hwn]
          clear hwn
          generalize wx24.heap.size = bVM at *
          rcases SI.out with ⟨t, ht, k1, k2⟩ | ⟨M, c, S, D, k1, k2, k3, k4, k5, k6, k7⟩
          · have e1 := k1.symm.trans HEA.out
            have e2 := k2.symm.trans HIN.out
            simp only [Prod.mk.injEq] at e1 e2
            obtain ⟨rfl, _, _⟩ := e1
            obtain ⟨rfl, _, _⟩ := e2
            have hne : (t != 0) = true := by rw [bne_iff_ne]; exact ht
            have HB := hideP BB24.out
            clear k1 k2 ht
            go_wp2_with fail
            go_ret
            exact ⟨by simp, HB.out⟩
          · have e1 := k1.symm.trans HEA.out
            have e2 := k5.symm.trans HIN.out
            simp only [Prod.mk.injEq] at e1 e2
            obtain ⟨rfl, rfl, rfl⟩ := e1
            obtain ⟨rfl, rfl, rfl⟩ := e2
            have K4 := hideP k4
            have LM : Hid (M.length ≤ 1000 ∧ 0 < M.length) := ⟨by rw [k2]; exact LD.out, by rw [k2]; exact H0.out⟩
            have LI : Hid (S.length ≤ 1 ∧ D.length ≤ 1) := ⟨k6, k7⟩
            clear k1 k2 k3 k4 k5 k6 k7
            go_upto_region 29 with fail
            -- step 25
            have cc0 := VM24.out.c0
            have cd0 := VM24.out.c1
            go_wp2_with fail
            clear cc0 cd0
            refine (reduce_faceG (op : Int) x24 y24 z24 t24 NV M _ (Nat.le_trans LN.out.1 (by decide)) (Nat.le_trans LM.out.1 (by decide)) (own_cap1 OVM.out.1 LN.out.2).1 (own_cap1 OVM.out.1 LN.out.2).2 (own_cap OVM.out.2).1 (own_cap OVM.out.2).2 VM24.out.r0 VM24.out.r1 c S D K4.out).mono ?_
            rintro e wx25 ⟨hbx, u0, u1, rfl, hres⟩
            obtain ⟨x25, y25, z25, t25, e0, e1⟩ := hres.forms
            subst e0
            subst e1
            obtain ⟨wn25, hwn⟩ : ∃ wn, wn = (wx25.alloc (.cells #[.slice x25 S.length y25, .slice z25 D.length t25] 25)) := ⟨_, rfl⟩
            have NV := va_new wx25 _ _ S D hres.1.rd hres.2.1.rd wn25 hwn
            have BX := hbx.trans (NV.2.mono hbx.size)
            have VO25 := hideP NV.1
            have OVO := hideP (And.intro hres.1 hres.2.1)
            have BB25 : Hid (Below w.heap.size w wn25) := BB24.out.trans (BX.mono BB24.out.size)
            have VX25 := hideP (VX24.out.keep BX)
            have VY25 := hideP (VY24.out.keep BX)
            have VI25 := hideP (VI24.out.keep BX)
            have VM25 := hideP (VM24.out.keep BX)
            clear VX24 VY24 VI24 VM24 BB24 NV BX hbx hres
            go_upto_region 30 with fail
            rw [← hwn]
            clear hwn
            generalize wx25.heap.size = bVO at *
            have heq : (c == c) = true := by simp
            -- same 26
            have cc0 := VI25.out.c0
            have cd0 := VI25.out.c1
            have cc1 := VO25.out.c0
            have cd1 := VO25.out.c1
            go_wp2_with fail
            clear cc0 cd0 cc1 cd1
            refine (same_yes _ _ _ _ _ _ _ (Nat.le_trans LI.out.1 (by decide)) (Nat.le_trans LI.out.2 (by decide)) VI25.out.r0 VI25.out.r1 VO25.out.r0 VO25.out.r1).mono ?_
            rintro e wn26 ⟨rfl, hbx⟩
            have BB26 : Hid (Below w.heap.size w wn26) := BB25.out.trans (hbx.mono BB25.out.size)
            have VI26 := hideP (VI25.out.keep hbx)
            have VO26 := hideP (VO25.out.keep hbx)
            clear VI25 VO25 BB25 hbx
            clear heq
            go_wp2_with fail
            go_ret
            exact ⟨rfl, BB26.out⟩
  · have hgt : (1048576 : Int) < (n : Int) := by omega
    have B := hideP (Below.refl w.heap.size w)
    clear h
    go_enter Tryz.func3, Tryz.ntmps3
    go_wp2_with fail
    go_ret
    exact ⟨rfl, B.out⟩

end Go.Proofs.YtaikmbfdhecjoaaGreat
