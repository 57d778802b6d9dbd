import Derived.Test.YtaopohihipihdaaGreatDoorLwV
import Derived.Test.YtaopohihipihdaaGreatDoorDa5
import Derived.Test.YtaopohihipihdaaGreatDoorArT
import Derived.Test.YtaopohihipihdaaGreatDoorAt
namespace Go.Proofs.YtaopohihipihdaaGreatDoor
open Go.RowKit
set_option linter.unusedVariables false

/-- what the law leaves -/
def LPost (w : World) (e : Ending) (w' : World) : Prop := e = .returned (.bool true) ∧ Below w.heap.size w w'

set_option maxRecDepth 100000 in
set_option maxHeartbeats 16000000 in
/-- laws.FnArrays -/
theorem arrays_law (ao : Option Addr) (n cap : Nat) (w : World) (hcap : n ≤ cap) (hm : cap ≤ 9223372036854775807) (h : RdB w.heap.size w ao n) (hev : Ev w) :
    Calls Tryz.prog 3 #[.slice ao n cap] w (LPost w) := by
  by_cases hn : n ≤ 1048576
  · have KT := hideP (drawText_any ao n cap w hn hcap hm h)
    have hgt : ¬ ((1048576 : Int) < (n : Int)) := by omega
    have HEV := hideP hev
    clear h hev
    go_enter Tryz.func3, Tryz.ntmps3
    go_wp2_with fail
    refine KT.out.mono ?_
    rintro e w1 ⟨v0, v1, sh, da, rfl, l0, l1, r0, r1, hb1⟩
    obtain ⟨g0, q0, e0, hq0, hq0'⟩ := r0.form
    obtain ⟨g1, q1, e1, hq1, hq1'⟩ := r1.form
    have rd0 := (r0.own).rd
    have rd1 := (r1.own).rd
    subst e0 e1
    have LS : Hid (sh.length ≤ 4) := l0
    have LD : Hid (da.length ≤ 1001) := l1
    have Q0 := hideP (And.intro hq0 hq0')
    have Q1 := hideP (And.intro hq1 hq1')
    obtain ⟨wn0, hwn0⟩ : ∃ wn0, wn0 = w1.alloc (.cells #[.slice (some ⟨g0, 0, none⟩) sh.length q0, .slice (some ⟨g1, 0, none⟩) da.length q1] 25) := ⟨_, rfl⟩
    have V1 := va_new w1 _ _ sh da rd0 rd1 wn0 hwn0
    have VA0 := hideP V1.1
    have BB0 : Hid (Below w.heap.size w wn0) := hb1.trans (V1.2.mono hb1.size)
    have EV0 := hideP (HEV.out.keep BB0.out)
    clear r0 r1 rd0 rd1 hb1 V1 hq0 hq0' hq1 hq1' KT hgt l0 l1 HEV
    go_upto_region 4 with fail
    rw [← hwn0]
    clear hwn0
    generalize w1.heap.size = bA at *
    cases hok : Pl.okB sh da with
    | false =>
      have ht : Pl.txt sh da = ⟨#[]⟩ := by unfold Pl.txt; rw [hok]; rfl
      obtain ⟨NS, ND, hno⟩ : ∃ NS ND, Pl.mo8 Pl.revM 4 sh da = (9, NS, ND) := ⟨[], [], Pl.mo8_no (fun hx => by rw [hok] at hx; exact absurd hx.2.2 (by decide))⟩
      have NO := hideP hno
      clear hno
      have ca := VA0.out.c0
      have cb := VA0.out.c1
      have K1 := implText_any _ _ sh da wn0 (Nat.le_trans LS.out (by decide)) (Nat.le_trans LD.out (by decide)) EV0.out.tab VA0.out.r0 VA0.out.r1
      rw [hok, ht] at K1
      go_wp2_with fail
      refine K1.mono ?_
      clear K1 ca cb
      rintro e wn1 ⟨rfl, hbx⟩
      have BB1 : Hid (Below w.heap.size w wn1) := BB0.out.trans (hbx.mono BB0.out.size)
      have VA1 := hideP (VA0.out.keep hbx)
      have EV1 := hideP (EV0.out.keep hbx)
      clear VA0 BB0 EV0 hbx
      have ca := VA1.out.c0
      have cb := VA1.out.c1
      have K1 := specOk_any _ _ sh da wn1 (Nat.le_trans LS.out (by decide)) (Nat.le_trans LD.out (by decide)) VA1.out.r0 VA1.out.r1
      rw [hok] at K1
      go_wp2_with fail
      refine K1.mono ?_
      clear K1 ca cb
      rintro e wn2 ⟨rfl, hbx⟩
      have BB2 : Hid (Below w.heap.size w wn2) := BB1.out.trans (hbx.mono BB1.out.size)
      have VA2 := hideP (VA1.out.keep hbx)
      have EV2 := hideP (EV1.out.keep hbx)
      clear VA1 BB1 EV1 hbx
      have ca := VA2.out.c0
      have cb := VA2.out.c1
      have K1 := implOk_any _ _ sh da wn2 (Nat.le_trans LS.out (by decide)) (Nat.le_trans LD.out (by decide)) VA2.out.r0 VA2.out.r1
      rw [hok] at K1
      go_wp2_with fail
      refine K1.mono ?_
      clear K1 ca cb
      rintro e wn3 ⟨rfl, hbx⟩
      have BB3 : Hid (Below w.heap.size w wn3) := BB2.out.trans (hbx.mono BB2.out.size)
      have VA3 := hideP (VA2.out.keep hbx)
      have EV3 := hideP (EV2.out.keep hbx)
      clear VA2 BB2 EV2 hbx
      clear EV3 ht
      go_upto_region 8 with fail
      -- step 4
      have cc0 := VA3.out.c0
      have cd0 := VA3.out.c1
      go_wp2_with fail
      clear cc0 cd0
      refine (rev_face (some ⟨g0, 0, none⟩) q0 (some ⟨g1, 0, none⟩) q1 sh da _ (Nat.le_trans LS.out (by decide)) (Nat.le_trans LD.out (by decide)) VA3.out.r0 VA3.out.r1 ⟨Q0.out.1, fun _ => Q0.out.2⟩ ⟨Q1.out.1, fun _ => Q1.out.2⟩ _ _ _ NO.out).mono ?_
      rintro e wx4 ⟨hbx, u0, u1, rfl, hres⟩
      obtain ⟨x4, y4, z4, t4, e0, e1⟩ := hres.forms
      replace e0 : u0 = .slice x4 NS.length y4 := e0
      subst e0
      subst e1
      obtain ⟨wn4, hwn⟩ : ∃ wn, wn = wx4.alloc (.cells #[.slice x4 NS.length y4, .slice z4 ND.length t4] 25) := ⟨_, rfl⟩
      have NV := va_new wx4 _ _ NS ND hres.1.rd hres.2.1.rd wn4 hwn
      have BX := hbx.trans (NV.2.mono hbx.size)
      have VN4 := hideP NV.1
      have OVN := hideP (And.intro hres.1 hres.2.1)
      have BB4 : Hid (Below w.heap.size w wn4) := BB3.out.trans (BX.mono BB3.out.size)
      have VA4 := hideP (VA3.out.keep BX)
      clear VA3 BB3 NV BX hbx hres
      go_upto_region 9 with fail
      rw [← hwn]
      clear hwn
      generalize wx4.heap.size = bVN at *
      go_wp2_with fail
      go_ret
      exact ⟨rfl, BB4.out⟩
    | true =>
      obtain ⟨T, hT⟩ : ∃ T, Pl.txt sh da = T := ⟨_, rfl⟩
      obtain ⟨t1, t2, t3, t4⟩ := par_txt hok
      obtain ⟨RD, u1, u2, u3⟩ := Pl.rev_rev hok
      obtain ⟨FD, f1, f2, f3⟩ := Pl.flip_flip hok
      rw [hT] at t1 t2 t3 t4
      have TL : Hid (T.size ≤ 1048576) := Nat.le_trans t4 (by decide)
      have P1 := hideP t1
      have P2 := hideP t2
      have P3 := hideP t3
      have OKA := hideP hok
      obtain ⟨FS, hFS⟩ : ∃ FS, FS = sh.reverse := ⟨_, rfl⟩
      rw [← hFS] at f1 f2 f3
      have LF : Hid (FS.length ≤ 3) := by show _ ≤ _; rw [hFS, List.length_reverse]; exact (Pl.ok_max hok).1
      have R1 : Hid (Pl.mo8 Pl.revM 4 sh da = (0, sh, RD)) := by
        show _ = _
        rw [Pl.mo8_yes ⟨by decide, by decide, hok⟩, u1]
      have R2 : Hid (Pl.mo8 Pl.revM 4 sh RD = (0, sh, da)) := by
        show _ = _
        rw [Pl.mo8_yes ⟨by decide, by decide, u2⟩, u3]
      have F1 : Hid (Pl.mo8 Pl.flipM 5 sh da = (0, FS, FD)) := by
        show _ = _
        rw [Pl.mo8_yes ⟨by decide, by decide, hok⟩, f1]
      have F2 : Hid (Pl.mo8 Pl.flipM 5 FS FD = (0, sh, da)) := by
        show _ = _
        rw [Pl.mo8_yes ⟨by decide, by decide, f2⟩, f3]
      have LR : Hid (RD.length ≤ 1000) := (Pl.ok_max u2).2
      have LFD : Hid (FD.length ≤ 1000) := (Pl.ok_max f2).2
      clear t1 t2 t3 t4 u1 u2 u3 f1 f2 f3 hFS
      have ca := VA0.out.c0
      have cb := VA0.out.c1
      have K1 := implText_any _ _ sh da wn0 (Nat.le_trans LS.out (by decide)) (Nat.le_trans LD.out (by decide)) EV0.out.tab VA0.out.r0 VA0.out.r1
      rw [hok, hT] at K1
      go_wp2_with fail
      refine K1.mono ?_
      clear K1 ca cb
      rintro e wn1 ⟨rfl, hbx⟩
      have BB1 : Hid (Below w.heap.size w wn1) := BB0.out.trans (hbx.mono BB0.out.size)
      have VA1 := hideP (VA0.out.keep hbx)
      have EV1 := hideP (EV0.out.keep hbx)
      clear VA0 BB0 EV0 hbx
      have ca := VA1.out.c0
      have cb := VA1.out.c1
      have K1 := specOk_any _ _ sh da wn1 (Nat.le_trans LS.out (by decide)) (Nat.le_trans LD.out (by decide)) VA1.out.r0 VA1.out.r1
      rw [hok] at K1
      go_wp2_with fail
      refine K1.mono ?_
      clear K1 ca cb
      rintro e wn2 ⟨rfl, hbx⟩
      have BB2 : Hid (Below w.heap.size w wn2) := BB1.out.trans (hbx.mono BB1.out.size)
      have VA2 := hideP (VA1.out.keep hbx)
      have EV2 := hideP (EV1.out.keep hbx)
      clear VA1 BB1 EV1 hbx
      have ca := VA2.out.c0
      have cb := VA2.out.c1
      have K1 := implOk_any _ _ sh da wn2 (Nat.le_trans LS.out (by decide)) (Nat.le_trans LD.out (by decide)) VA2.out.r0 VA2.out.r1
      rw [hok] at K1
      go_wp2_with fail
      refine K1.mono ?_
      clear K1 ca cb
      rintro e wn3 ⟨rfl, hbx⟩
      have BB3 : Hid (Below w.heap.size w wn3) := BB2.out.trans (hbx.mono BB2.out.size)
      have VA3 := hideP (VA2.out.keep hbx)
      have EV3 := hideP (EV2.out.keep hbx)
      clear VA2 BB2 EV2 hbx
      clear hT hok
      go_upto_region 10 with fail
      have K1 := implParse_any T wn3 TL.out EV3.out
      rw [P1.out, P2.out, P3.out] at K1
      have KP := hideP K1
      clear K1 EV3
      -- step 4
      go_wp2_with fail
      refine (KP.out).mono ?_
      rintro e wx4 ⟨hbx, u0, u1, rfl, hres⟩
      obtain ⟨x4, y4, z4, t4, e0, e1⟩ := hres.forms
      replace e0 : u0 = .slice x4 sh.length y4 := e0
      subst e0
      subst e1
      obtain ⟨wn4, hwn⟩ : ∃ wn, wn = wx4.alloc (.cells #[.slice x4 sh.length y4, .slice z4 da.length t4] 25) := ⟨_, rfl⟩
      have NV := va_new wx4 _ _ sh da hres.1.rd hres.2.1.rd wn4 hwn
      have BX := hbx.trans (NV.2.mono hbx.size)
      have VB4 := hideP NV.1
      have OVB := hideP (And.intro hres.1 hres.2.1)
      have BB4 : Hid (Below w.heap.size w wn4) := BB3.out.trans (BX.mono BB3.out.size)
      have VA4 := hideP (VA3.out.keep BX)
      clear VA3 BB3 NV BX hbx hres KP
      go_upto_region 11 with fail
      rw [← hwn]
      clear hwn
      generalize wx4.heap.size = bVB at *
      -- step 5
      have cc0 := VA4.out.c0
      have cd0 := VA4.out.c1
      go_wp2_with fail
      clear cc0 cd0
      refine (rev_face (some ⟨g0, 0, none⟩) q0 (some ⟨g1, 0, none⟩) q1 sh da _ (Nat.le_trans LS.out (by decide)) (Nat.le_trans LD.out (by decide)) VA4.out.r0 VA4.out.r1 ⟨Q0.out.1, fun _ => Q0.out.2⟩ ⟨Q1.out.1, fun _ => Q1.out.2⟩ _ _ _ R1.out).mono ?_
      rintro e wx5 ⟨hbx, u0, u1, rfl, hres⟩
      obtain ⟨x5, y5, z5, t5, e0, e1⟩ := hres.forms
      replace e0 : u0 = .slice x5 sh.length y5 := e0
      subst e0
      subst e1
      obtain ⟨wn5, hwn⟩ : ∃ wn, wn = wx5.alloc (.cells #[.slice x5 sh.length y5, .slice z5 RD.length t5] 25) := ⟨_, rfl⟩
      have NV := va_new wx5 _ _ sh RD hres.1.rd hres.2.1.rd wn5 hwn
      have BX := hbx.trans (NV.2.mono hbx.size)
      have VR5 := hideP NV.1
      have OVR := hideP (And.intro hres.1 hres.2.1)
      have BB5 : Hid (Below w.heap.size w wn5) := BB4.out.trans (BX.mono BB4.out.size)
      have VA5 := hideP (VA4.out.keep BX)
      have VB5 := hideP (VB4.out.keep BX)
      clear VA4 VB4 BB4 NV BX hbx hres
      go_upto_region 12 with fail
      rw [← hwn]
      clear hwn
      generalize wx5.heap.size = bVR at *
      -- step 6
      have cc0 := VR5.out.c0
      have cd0 := VR5.out.c1
      go_wp2_with fail
      clear cc0 cd0
      refine (rev_face x5 y5 z5 t5 sh RD _ (Nat.le_trans LS.out (by decide)) (Nat.le_trans LR.out (by decide)) VR5.out.r0 VR5.out.r1 (own_cap OVR.out.1) (own_cap OVR.out.2) _ _ _ R2.out).mono ?_
      rintro e wx6 ⟨hbx, u0, u1, rfl, hres⟩
      obtain ⟨x6, y6, z6, t6, e0, e1⟩ := hres.forms
      replace e0 : u0 = .slice x6 sh.length y6 := e0
      subst e0
      subst e1
      obtain ⟨wn6, hwn⟩ : ∃ wn, wn = wx6.alloc (.cells #[.slice x6 sh.length y6, .slice z6 da.length t6] 25) := ⟨_, rfl⟩
      have NV := va_new wx6 _ _ sh da hres.1.rd hres.2.1.rd wn6 hwn
      have BX := hbx.trans (NV.2.mono hbx.size)
      have VS6 := hideP NV.1
      have OVS := hideP (And.intro hres.1 hres.2.1)
      have BB6 : Hid (Below w.heap.size w wn6) := BB5.out.trans (BX.mono BB5.out.size)
      have VA6 := hideP (VA5.out.keep BX)
      have VB6 := hideP (VB5.out.keep BX)
      have VR6 := hideP (VR5.out.keep BX)
      clear VA5 VB5 VR5 BB5 NV BX hbx hres
      go_upto_region 13 with fail
      rw [← hwn]
      clear hwn
      generalize wx6.heap.size = bVS at *
      -- step 7
      have cc0 := VA6.out.c0
      have cd0 := VA6.out.c1
      go_wp2_with fail
      clear cc0 cd0
      refine (flip_face (some ⟨g0, 0, none⟩) q0 (some ⟨g1, 0, none⟩) q1 sh da _ (Nat.le_trans LS.out (by decide)) (Nat.le_trans LD.out (by decide)) VA6.out.r0 VA6.out.r1 ⟨Q0.out.1, fun _ => Q0.out.2⟩ _ _ _ F1.out).mono ?_
      rintro e wx7 ⟨hbx, u0, u1, rfl, hres⟩
      obtain ⟨x7, y7, z7, t7, e0, e1⟩ := hres.forms
      replace e0 : u0 = .slice x7 FS.length y7 := e0
      subst e0
      subst e1
      obtain ⟨wn7, hwn⟩ : ∃ wn, wn = wx7.alloc (.cells #[.slice x7 FS.length y7, .slice z7 FD.length t7] 25) := ⟨_, rfl⟩
      have NV := va_new wx7 _ _ FS FD hres.1.rd hres.2.1.rd wn7 hwn
      have BX := hbx.trans (NV.2.mono hbx.size)
      have VF7 := hideP NV.1
      have OVF := hideP (And.intro hres.1 hres.2.1)
      have BB7 : Hid (Below w.heap.size w wn7) := BB6.out.trans (BX.mono BB6.out.size)
      have VA7 := hideP (VA6.out.keep BX)
      have VB7 := hideP (VB6.out.keep BX)
      have VR7 := hideP (VR6.out.keep BX)
      have VS7 := hideP (VS6.out.keep BX)
      clear VA6 VB6 VR6 VS6 BB6 NV BX hbx hres
      go_upto_region 14 with fail
      rw [← hwn]
      clear hwn
      generalize wx7.heap.size = bVF at *
      -- step 8
      have cc0 := VF7.out.c0
      have cd0 := VF7.out.c1
      go_wp2_with fail
      clear cc0 cd0
      refine (flip_face x7 y7 z7 t7 FS FD _ (Nat.le_trans LF.out (by decide)) (Nat.le_trans LFD.out (by decide)) VF7.out.r0 VF7.out.r1 (own_cap OVF.out.1) _ _ _ F2.out).mono ?_
      rintro e wx8 ⟨hbx, u0, u1, rfl, hres⟩
      obtain ⟨x8, y8, z8, t8, e0, e1⟩ := hres.forms
      replace e0 : u0 = .slice x8 sh.length y8 := e0
      subst e0
      subst e1
      obtain ⟨wn8, hwn⟩ : ∃ wn, wn = wx8.alloc (.cells #[.slice x8 sh.length y8, .slice z8 da.length t8] 25) := ⟨_, rfl⟩
      have NV := va_new wx8 _ _ sh da hres.1.rd hres.2.1.rd wn8 hwn
      have BX := hbx.trans (NV.2.mono hbx.size)
      have VG8 := hideP NV.1
      have OVG := hideP (And.intro hres.1 hres.2.1)
      have BB8 : Hid (Below w.heap.size w wn8) := BB7.out.trans (BX.mono BB7.out.size)
      have VA8 := hideP (VA7.out.keep BX)
      have VB8 := hideP (VB7.out.keep BX)
      have VR8 := hideP (VR7.out.keep BX)
      have VS8 := hideP (VS7.out.keep BX)
      have VF8 := hideP (VF7.out.keep BX)
      clear VA7 VB7 VR7 VS7 VF7 BB7 NV BX hbx hres
      go_upto_region 15 with fail
      rw [← hwn]
      clear hwn
      generalize wx8.heap.size = bVG at *
      -- is 9
      have cc0 := VB8.out.c0
      have cd0 := VB8.out.c1
      have cc1 := VA8.out.c0
      have cd1 := VA8.out.c1
      go_wp2_with fail
      clear cc0 cd0 cc1 cd1 
      refine (lwIs_yes _ _ _ _ _ _ _ (Nat.le_trans LS.out (by decide)) (Nat.le_trans LD.out (by decide)) VB8.out.r0 VB8.out.r1 VA8.out.r0 VA8.out.r1).mono ?_
      rintro e wn9 ⟨rfl, hbx⟩
      have BB9 : Hid (Below w.heap.size w wn9) := BB8.out.trans (hbx.mono BB8.out.size)
      have VA9 := hideP (VA8.out.keep hbx)
      have VB9 := hideP (VB8.out.keep hbx)
      have VR9 := hideP (VR8.out.keep hbx)
      have VS9 := hideP (VS8.out.keep hbx)
      have VF9 := hideP (VF8.out.keep hbx)
      have VG9 := hideP (VG8.out.keep hbx)
      clear VA8 VB8 VR8 VS8 VF8 VG8 BB8 hbx
      -- is 10
      have cc0 := VS9.out.c0
      have cd0 := VS9.out.c1
      have cc1 := VA9.out.c0
      have cd1 := VA9.out.c1
      go_wp2_with fail
      clear cc0 cd0 cc1 cd1 
      refine (lwIs_yes _ _ _ _ _ _ _ (Nat.le_trans LS.out (by decide)) (Nat.le_trans LD.out (by decide)) VS9.out.r0 VS9.out.r1 VA9.out.r0 VA9.out.r1).mono ?_
      rintro e wn10 ⟨rfl, hbx⟩
      have BB10 : Hid (Below w.heap.size w wn10) := BB9.out.trans (hbx.mono BB9.out.size)
      have VA10 := hideP (VA9.out.keep hbx)
      have VB10 := hideP (VB9.out.keep hbx)
      have VR10 := hideP (VR9.out.keep hbx)
      have VS10 := hideP (VS9.out.keep hbx)
      have VF10 := hideP (VF9.out.keep hbx)
      have VG10 := hideP (VG9.out.keep hbx)
      clear VA9 VB9 VR9 VS9 VF9 VG9 BB9 hbx
      -- is 11
      have cc0 := VG10.out.c0
      have cd0 := VG10.out.c1
      have cc1 := VA10.out.c0
      have cd1 := VA10.out.c1
      go_wp2_with fail
      clear cc0 cd0 cc1 cd1 
      refine (lwIs_yes _ _ _ _ _ _ _ (Nat.le_trans LS.out (by decide)) (Nat.le_trans LD.out (by decide)) VG10.out.r0 VG10.out.r1 VA10.out.r0 VA10.out.r1).mono ?_
      rintro e wn11 ⟨rfl, hbx⟩
      have BB11 : Hid (Below w.heap.size w wn11) := BB10.out.trans (hbx.mono BB10.out.size)
      have VA11 := hideP (VA10.out.keep hbx)
      have VB11 := hideP (VB10.out.keep hbx)
      have VR11 := hideP (VR10.out.keep hbx)
      have VS11 := hideP (VS10.out.keep hbx)
      have VF11 := hideP (VF10.out.keep hbx)
      have VG11 := hideP (VG10.out.keep hbx)
      clear VA10 VB10 VR10 VS10 VF10 VG10 BB10 hbx
      go_upto_region 17 with fail
      clear VB11 VR11 VS11 VF11 VG11 OVB OVR OVS OVF OVG R1 R2 F1 F2 P1 P2 P3
      have hca := VA11.out.c0
      by_cases h0 : 0 < sh.length
      · have h0' : (0 : Int) < (sh.length : Int) := by omega
        obtain ⟨NX, hNX⟩ : ∃ NX, NX = sh.getD 0 0 := ⟨_, rfl⟩
        have hax : Pl.axesS sh da = sh := by unfold Pl.axesS; rw [if_neg (by omega)]
        have K1 := count_face (some ⟨g0, 0, none⟩) q0 (some ⟨g1, 0, none⟩) q1 sh da wn11 (Nat.le_trans LS.out (by decide)) (Nat.le_trans LD.out (by decide)) VA11.out.r0 VA11.out.r1 OKA.out
        rw [hax, ← hNX] at K1
        have KC := hideP K1
        have hb : 0 ≤ NX ∧ NX ≤ 1000 := by
          have := OKA.out
          simp only [Pl.okB, Pl.fitsB, Bool.and_eq_true] at this
          rw [hNX, List.getD_eq_getElem?_getD, List.getElem?_eq_getElem h0, Option.getD_some]
          exact Pl.base_nonneg this.1.1.1 _ (List.getElem_mem h0)
        have ok0 : Pl.okB [] [NX] = true := by simp [Pl.okB, Pl.fitsB, Pl.baseB, Pl.valB, show Pl.prodC [] = 1 from rfl]; omega
        have TA := Pl.take_all OKA.out (by omega)
        rw [← hNX] at TA
        have TK : Hid (Pl.dy8 Pl.takeM 2 [] [NX] sh da = (0, sh, da)) := by
          show _ = _
          rw [Pl.dy8_yes ⟨by decide, by decide, ok0, OKA.out⟩, TA]
        clear K1 hb ok0 TA hax hNX h0
        obtain ⟨S0, hS0⟩ : ∃ S0 : List Int, S0 = [] := ⟨_, rfl⟩
        obtain ⟨D0, hD0⟩ : ∃ D0 : List Int, D0 = [NX] := ⟨_, rfl⟩
        rw [← hD0, ← hS0] at KC TK
        have LS0 : Hid (S0.length ≤ 3) := by show _ ≤ _; rw [hS0]; simp
        have LD0 : Hid (D0.length ≤ 3) := by show _ ≤ _; rw [hD0]; simp
        clear hS0 hD0
        go_upto_region 18 with fail
        clear hca
        -- step 12
        have cc0 := VA11.out.c0
        have cd0 := VA11.out.c1
        go_wp2_with fail
        clear cc0 cd0
        refine (KC.out).mono ?_
        rintro e wx12 ⟨hbx, u0, u1, rfl, hres⟩
        obtain ⟨x12, y12, z12, t12, e0, e1⟩ := hres.forms
        replace e0 : u0 = .slice x12 S0.length y12 := e0
        subst e0
        subst e1
        obtain ⟨wn12, hwn⟩ : ∃ wn, wn = wx12.alloc (.cells #[.slice x12 S0.length y12, .slice z12 D0.length t12] 25) := ⟨_, rfl⟩
        have NV := va_new wx12 _ _ S0 D0 hres.1.rd hres.2.1.rd wn12 hwn
        have BX := hbx.trans (NV.2.mono hbx.size)
        have VN12 := hideP NV.1
        have OVN := hideP (And.intro hres.1 hres.2.1)
        have BB12 : Hid (Below w.heap.size w wn12) := BB11.out.trans (BX.mono BB11.out.size)
        have VA12 := hideP (VA11.out.keep BX)
        clear VA11 BB11 NV BX hbx hres KC
        go_upto_region 19 with fail
        rw [← hwn]
        clear hwn
        generalize wx12.heap.size = bVN at *
        -- step 13
        have cc0 := VN12.out.c0
        have cd0 := VN12.out.c1
        have cc1 := VA12.out.c0
        have cd1 := VA12.out.c1
        go_wp2_with fail
        clear cc0 cd0 cc1 cd1
        refine (take_faceG x12 y12 z12 t12 (some ⟨g0, 0, none⟩) q0 (some ⟨g1, 0, none⟩) q1 S0 D0 sh da _ (Nat.le_trans LS0.out (by decide)) (Nat.le_trans LD0.out (by decide)) (Nat.le_trans LS.out (by decide)) (Nat.le_trans LD.out (by decide)) VN12.out.r0 VN12.out.r1 VA12.out.r0 VA12.out.r1 Q0.out.1 Q0.out.2 Q1.out.1 (fun _ => Q1.out.2) _ _ _ TK.out).mono ?_
        rintro e wx13 ⟨hbx, u0, u1, rfl, hres⟩
        obtain ⟨x13, y13, z13, t13, e0, e1⟩ := hres.forms
        replace e0 : u0 = .slice x13 sh.length y13 := e0
        subst e0
        subst e1
        obtain ⟨wn13, hwn⟩ : ∃ wn, wn = wx13.alloc (.cells #[.slice x13 sh.length y13, .slice z13 da.length t13] 25) := ⟨_, rfl⟩
        have NV := va_new wx13 _ _ sh da hres.1.rd hres.2.1.rd wn13 hwn
        have BX := hbx.trans (NV.2.mono hbx.size)
        have VT13 := hideP NV.1
        have OVT := hideP (And.intro hres.1 hres.2.1)
        have BB13 : Hid (Below w.heap.size w wn13) := BB12.out.trans (BX.mono BB12.out.size)
        have VA13 := hideP (VA12.out.keep BX)
        have VN13 := hideP (VN12.out.keep BX)
        clear VA12 VN12 BB12 NV BX hbx hres
        go_upto_region 20 with fail
        rw [← hwn]
        clear hwn
        generalize wx13.heap.size = bVT at *
        -- is 14
        have cc0 := VT13.out.c0
        have cd0 := VT13.out.c1
        have cc1 := VA13.out.c0
        have cd1 := VA13.out.c1
        go_wp2_with fail
        clear cc0 cd0 cc1 cd1 
        refine (lwIs_yes _ _ _ _ _ _ _ (Nat.le_trans LS.out (by decide)) (Nat.le_trans LD.out (by decide)) VT13.out.r0 VT13.out.r1 VA13.out.r0 VA13.out.r1).mono ?_
        rintro e wn14 ⟨rfl, hbx⟩
        have BB14 : Hid (Below w.heap.size w wn14) := BB13.out.trans (hbx.mono BB13.out.size)
        have VA14 := hideP (VA13.out.keep hbx)
        have VN14 := hideP (VN13.out.keep hbx)
        have VT14 := hideP (VT13.out.keep hbx)
        clear VA13 VN13 VT13 BB13 hbx
        have cc0 := VA14.out.c0
        have cd0 := VA14.out.c1
        go_wp2_with fail
        refine (lwVector_yes (some ⟨g0, 0, none⟩) q0 (some ⟨g1, 0, none⟩) q1 sh da wn14 VA14.out.r0 VA14.out.r1 OKA.out).mono ?_
        clear cc0 cd0
        rintro e wz ⟨rfl, hbx⟩
        have BZ : Hid (Below w.heap.size w wz) := BB14.out.trans (hbx.mono BB14.out.size)
        clear hbx
        go_wp2_with fail
        go_ret
        exact ⟨rfl, BZ.out⟩
      · have h0' : ¬ (0 : Int) < (sh.length : Int) := by omega
        clear h0
        go_upto_region 22 with fail
        clear hca
        have cc0 := VA11.out.c0
        have cd0 := VA11.out.c1
        go_wp2_with fail
        refine (lwVector_yes (some ⟨g0, 0, none⟩) q0 (some ⟨g1, 0, none⟩) q1 sh da wn11 VA11.out.r0 VA11.out.r1 OKA.out).mono ?_
        clear cc0 cd0
        rintro e wz ⟨rfl, hbx⟩
        have BZ : Hid (Below w.heap.size w wz) := BB11.out.trans (hbx.mono BB11.out.size)
        clear hbx
        go_wp2_with fail
        go_ret
        exact ⟨rfl, BZ.out⟩
  · have hgt : (1048576 : Int) < (n : Int) := by omega
    go_enter Tryz.func3, Tryz.ntmps3
    go_wp2_with fail
    go_ret
    exact ⟨rfl, Below.refl _ _⟩

end Go.Proofs.YtaopohihipihdaaGreatDoor
