import Derived.Test.YtaopohihipihdaaGreatDoorLw2
import Derived.BigQuiet
namespace Go.Proofs.YtaopohihipihdaaGreatDoor
open Go.RowKit
set_option linter.unusedVariables false

set_option maxRecDepth 100000 in
set_option maxHeartbeats 16000000 in
/-- laws.lwVector of a valid array -/
theorem lwVector_yes (a0 : Option Addr) (k0 : Nat) (a1 : Option Addr) (k1 : Nat) (sh da : List Int) (w : World) (h0 : Rd w.heap.size w (.slice a0 sh.length k0) sh) (h1 : Rd w.heap.size w (.slice a1 da.length k1) da) (ok : Pl.okB sh da = true) :
    Calls Tryz.prog 12 #[.agg #[.slice a0 sh.length k0, .slice a1 da.length k1]] w fun e w' => e = .returned (.bool true) ∧ Below w.heap.size w w' := by
  have V := va_new w _ _ sh da h0 h1 (w.alloc (.cells #[.slice a0 sh.length k0, .slice a1 da.length k1] 25)) rfl
  have VA0 := hideP V.1
  have BB0 := hideP V.2
  obtain ⟨hm0, hm1⟩ := Pl.ok_max ok
  have LS : Hid (sh.length ≤ 3) := hm0
  have LD : Hid (da.length ≤ 1000) := hm1
  have OKA := hideP ok
  obtain ⟨m, hm⟩ : ∃ m, da.length = m := ⟨_, rfl⟩
  have OKV : Hid (Pl.okB [(m : Int)] da = true) := Pl.ok_vec (by omega) hm (fun x hx => Pl.ok_cell ok hx)
  have HM := hideP hm
  have RA : Hid (Pl.mo8 (fun _ da => ((0 : Int), [(da.length : Int)], da)) 3 sh da = (0, [(m : Int)], da)) := by
    show _ = _
    rw [Pl.mo8_yes ⟨by decide, by decide, ok⟩, hm]
  have RB : Hid (Pl.mo8 (fun _ da => ((0 : Int), [(da.length : Int)], da)) 3 [(m : Int)] da = (0, [(m : Int)], da)) := by
    show _ = _
    rw [Pl.mo8_yes ⟨by decide, by decide, OKV.out⟩, hm]
  obtain ⟨OR, UP, g1, g2, g3, g4, g5, g6⟩ := Pl.grade_from OKV.out hm
  have RG : Hid (Pl.mo8 Pl.gradeM 6 [(m : Int)] da = (0, [(m : Int)], OR)) := by
    show _ = _
    rw [Pl.mo8_yes ⟨by decide, by decide, OKV.out⟩, g1]
  have RF : Hid (Pl.dy8 Pl.fromM 5 [(m : Int)] OR [(m : Int)] da = (0, [(m : Int)], UP)) := by
    show _ = _
    rw [Pl.dy8_yes ⟨by decide, by decide, g2, OKV.out⟩, g3]
  have LO : Hid (OR.length = da.length ∧ UP.length = da.length) := ⟨by omega, by omega⟩
  have SRT := hideP g6
  have L1 : Hid ([(m : Int)].length ≤ 1048576) := by show _ ≤ _; simp
  clear V h0 h1 hm0 hm1 ok hm g1 g2 g3 g4 g5 g6
  obtain ⟨wn0, hwn0⟩ : ∃ wn0, wn0 = w.alloc (.cells #[.slice a0 sh.length k0, .slice a1 da.length k1] 25) := ⟨_, rfl⟩
  rw [← hwn0] at VA0 BB0
  go_enter Tryz.func12, Tryz.ntmps12
  go_upto_region 1 with fail
  rw [← hwn0]
  clear hwn0
  generalize w.heap.size = bA at VA0 ⊢
  -- step 1
  have cc0 := VA0.out.c0
  have cd0 := VA0.out.c1
  go_wp2_with fail
  clear cc0 cd0
  refine (ravel_faceG a0 k0 a1 k1 sh da _ (Nat.le_trans LS.out (by decide)) (Nat.le_trans LD.out (by decide)) VA0.out.r0 VA0.out.r1 _ _ _ RA.out).mono ?_
  rintro e wx1 ⟨hbx, u0, u1, rfl, hres⟩
  obtain ⟨x1, y1, z1, t1, e0, e1⟩ := hres.forms
  replace e0 : u0 = .slice x1 1 y1 := e0
  subst e0
  subst e1
  obtain ⟨wn1, hwn⟩ : ∃ wn, wn = wx1.alloc (.cells #[.slice x1 1 y1, .slice z1 da.length t1] 25) := ⟨_, rfl⟩
  have NV := va_new wx1 _ _ [(m : Int)] da hres.1.rd hres.2.1.rd wn1 hwn
  have BX := hbx.trans (NV.2.mono hbx.size)
  have VV1 := hideP NV.1
  have OVV := hideP (And.intro hres.1 hres.2.1)
  have BB1 : Hid (Below w.heap.size w wn1) := BB0.out.trans (BX.mono BB0.out.size)
  have VA1 := hideP (VA0.out.keep BX)
  clear VA0 BB0 NV BX hbx hres
  go_upto_region 2 with fail
  rw [← hwn]
  clear hwn
  generalize wx1.heap.size = bVV at *
  -- step 2
  have cc0 := VV1.out.c0
  have cd0 := VV1.out.c1
  go_wp2_with fail
  clear cc0 cd0
  refine (ravel_faceG x1 y1 z1 t1 [(m : Int)] da _ L1.out (Nat.le_trans LD.out (by decide)) VV1.out.r0 VV1.out.r1 _ _ _ RB.out).mono ?_
  rintro e wx2 ⟨hbx, u0, u1, rfl, hres⟩
  obtain ⟨x2, y2, z2, t2, e0, e1⟩ := hres.forms
  replace e0 : u0 = .slice x2 1 y2 := e0
  subst e0
  subst e1
  obtain ⟨wn2, hwn⟩ : ∃ wn, wn = wx2.alloc (.cells #[.slice x2 1 y2, .slice z2 da.length t2] 25) := ⟨_, rfl⟩
  have NV := va_new wx2 _ _ [(m : Int)] da hres.1.rd hres.2.1.rd wn2 hwn
  have BX := hbx.trans (NV.2.mono hbx.size)
  have VU2 := hideP NV.1
  have OVU := hideP (And.intro hres.1 hres.2.1)
  have BB2 : Hid (Below w.heap.size w wn2) := BB1.out.trans (BX.mono BB1.out.size)
  have VA2 := hideP (VA1.out.keep BX)
  have VV2 := hideP (VV1.out.keep BX)
  clear VA1 VV1 BB1 NV BX hbx hres
  go_upto_region 3 with fail
  rw [← hwn]
  clear hwn
  generalize wx2.heap.size = bVU at *
  -- is 3
  have cc0 := VU2.out.c0
  have cd0 := VU2.out.c1
  have cc1 := VV2.out.c0
  have cd1 := VV2.out.c1
  have cm0 := VA2.out.c1
  go_wp2_with fail
  clear cc0 cd0 cc1 cd1 cm0
  refine (lwIs_yes _ _ _ _ _ _ _ L1.out (Nat.le_trans LD.out (by decide)) VU2.out.r0 VU2.out.r1 VV2.out.r0 VV2.out.r1).mono ?_
  rintro e wn3 ⟨rfl, hbx⟩
  have BB3 : Hid (Below w.heap.size w wn3) := BB2.out.trans (hbx.mono BB2.out.size)
  have VA3 := hideP (VA2.out.keep hbx)
  have VV3 := hideP (VV2.out.keep hbx)
  have VU3 := hideP (VU2.out.keep hbx)
  clear VA2 VV2 VU2 BB2 hbx
  go_upto_region 5 with fail
  clear VA3 VU3 OVU RA RB OKA
  have CV0 : Hid (1 ≤ y1 ∧ y1 ≤ 9223372036854775807) := own_cap1 (zs := [(m : Int)]) OVV.out.1 (by simp)
  have CV1 : Hid (da.length ≤ t1 ∧ (0 < da.length → t1 ≤ 9223372036854775807)) := own_cap OVV.out.2
  go_wp2_with fail
  go_loopw [7, 8, 9, 10, 11, 12, 13, 14] (fun s7 _ _ _ _ _ _ _ wr => ∃ i : Nat, i ≤ 8 ∧ i ≤ m + 1 ∧ s7 = .int .i64 (i : Int) ∧ Hid (Va bVV (Value.slice x1 1 y1) (Value.slice z1 da.length t1) [(m : Int)] da wr) ∧ Hid (Below w.heap.size w wr)) (fun s7 _ _ _ _ _ _ _ _ => 9 - (intOf s7).toNat)
  case atStart => exact ⟨0, by omega, by omega, rfl, VV3, BB3⟩
  case round =>
    obtain ⟨i, hi8, him, rfl, VV10, BB10⟩ := hrel
    clear VV3 BB3 OVV
    rename World => wn10
    by_cases hin : i ≤ m ∧ i < 8
    · obtain ⟨hle, hlt⟩ := hin
      have c1 := VV10.out.c1
      have h1' : (i : Int) ≤ (m : Int) := by omega
      have h2' : (i : Int) < 8 := by omega
      rw [HM.out] at c1
      go_upto_region 8 with fail
      clear c1 h2' h1'
      obtain ⟨p1, p2, p3, p4, p5⟩ := Pl.parts_cat OKV.out HM.out hle
      have ok0 : Pl.okB [] [(i : Int)] = true := by simp [Pl.okB, Pl.fitsB, Pl.baseB, Pl.valB, show Pl.prodC [] = 1 from rfl]; omega
      obtain ⟨HD, hHD⟩ : ∃ HD, HD = da.take i := ⟨_, rfl⟩
      obtain ⟨TD, hTD⟩ : ∃ TD, TD = da.drop i := ⟨_, rfl⟩
      obtain ⟨r, hr⟩ : ∃ r, m - i = r := ⟨_, rfl⟩
      have LH : Hid (HD.length = i) := by have := HM.out; show _ = _; rw [hHD, List.length_take]; omega
      have LH2 : Hid (HD.length ≤ 1000) := by have := LH.out; show _ ≤ _; omega
      have LT : Hid (TD.length ≤ 1000) := by have := LD.out; show _ ≤ _; rw [hTD, List.length_drop]; omega
      rw [← hHD, ← hTD, hr] at p3
      rw [← hHD] at p1 p4
      rw [← hTD, hr] at p2 p5
      have TK : Hid (Pl.dy8 Pl.takeM 2 [] [(i : Int)] [(m : Int)] da = (0, [(i : Int)], HD)) := by
        show _ = _
        rw [Pl.dy8_yes ⟨by decide, by decide, ok0, OKV.out⟩, p1]
      have DK : Hid (Pl.dy8 Pl.dropM 3 [] [(i : Int)] [(m : Int)] da = (0, [(r : Int)], TD)) := by
        show _ = _
        rw [Pl.dy8_yes ⟨by decide, by decide, ok0, OKV.out⟩, p2]
      have CK : Hid (Pl.dy8 Pl.catM 4 [(i : Int)] HD [(r : Int)] TD = (0, [(m : Int)], da)) := by
        show _ = _
        rw [Pl.dy8_yes ⟨by decide, by decide, p4, p5⟩, p3]
      have HI := hideP (And.intro hle hlt)
      clear hle hlt p1 p2 p3 p4 p5 ok0 hHD hTD hr hi8 him
      obtain ⟨wl, hwl⟩ : ∃ wl, wl = wn10.alloc (.cells #[.int .i64 (i : Int)] 3) := ⟨_, rfl⟩
      have LR := lit_rd wn10 (i : Int)
      rw [← hwl] at LR
      have A1 : Below wn10.heap.size wn10 wl := by rw [hwl]; exact (Below.refl _ _).alloc (Nat.le_refl _) _
      obtain ⟨wn11, hwn11⟩ : ∃ wn11, wn11 = wl.alloc (.cells #[.slice none 0 0, .slice (some ⟨wn10.heap.size, 0, none⟩) 1 1] 25) := ⟨_, rfl⟩
      have NV := va_new wl _ _ [] [(i : Int)] (rd_zero _ _ _ _ _ rfl) LR wn11 hwn11
      have BX := A1.trans (NV.2.mono A1.size)
      have hsz : wl.heap.size = wn10.heap.size + 1 := by rw [hwl]; simp
      have NV1 := NV.1
      rw [hsz] at NV1
      have VK11 := hideP NV1
      have VV11 := hideP (VV10.out.keep BX)
      have BB11 : Hid (Below w.heap.size w wn11) := BB10.out.trans (BX.mono BB10.out.size)
      clear NV NV1 hsz BX A1 LR VV10 BB10
      go_upto_region 9 with fail
      rw [← hwl, ← hwn11]
      clear hwn11
      generalize wn10.heap.size = bL at *
      clear hwl
      -- step 12
      have cc0 := VK11.out.c0
      have cd0 := VK11.out.c1
      have cc1 := VV11.out.c0
      have cd1 := VV11.out.c1
      go_wp2_with fail
      clear cc0 cd0 cc1 cd1
      refine (take_faceG none 0 (some ⟨bL, 0, none⟩) 1 x1 y1 z1 t1 [] [(i : Int)] [(m : Int)] da _ (by simp) (by simp) L1.out (Nat.le_trans LD.out (by decide)) VK11.out.r0 VK11.out.r1 VV11.out.r0 VV11.out.r1 CV0.out.1 CV0.out.2 CV1.out.1 CV1.out.2 _ _ _ TK.out).mono ?_
      rintro e wx12 ⟨hbx, u0, u1, rfl, hres⟩
      obtain ⟨x12, y12, z12, t12, e0, e1⟩ := hres.forms
      replace e0 : u0 = .slice x12 1 y12 := e0
      subst e0
      subst e1
      obtain ⟨wn12, hwn⟩ : ∃ wn, wn = wx12.alloc (.cells #[.slice x12 1 y12, .slice z12 HD.length t12] 25) := ⟨_, rfl⟩
      have NV := va_new wx12 _ _ [(i : Int)] HD hres.1.rd hres.2.1.rd wn12 hwn
      have BX := hbx.trans (NV.2.mono hbx.size)
      have VH12 := hideP NV.1
      have OVH := hideP (And.intro hres.1 hres.2.1)
      have BB12 : Hid (Below w.heap.size w wn12) := BB11.out.trans (BX.mono BB11.out.size)
      have VK12 := hideP (VK11.out.keep BX)
      have VV12 := hideP (VV11.out.keep BX)
      clear VK11 VV11 BB11 NV BX hbx hres
      go_upto_region 10 with fail
      rw [← hwn]
      clear hwn
      generalize wx12.heap.size = bVH at *
      -- step 13
      have cc0 := VK12.out.c0
      have cd0 := VK12.out.c1
      have cc1 := VV12.out.c0
      have cd1 := VV12.out.c1
      go_wp2_with fail
      clear cc0 cd0 cc1 cd1
      refine (drop_face none 0 (some ⟨bL, 0, none⟩) 1 x1 y1 z1 t1 [] [(i : Int)] [(m : Int)] da _ (by simp) (by simp) L1.out (Nat.le_trans LD.out (by decide)) VK12.out.r0 VK12.out.r1 VV12.out.r0 VV12.out.r1 CV0.out.1 CV0.out.2 CV1.out.1 CV1.out.2 _ _ _ DK.out).mono ?_
      rintro e wx13 ⟨hbx, u0, u1, rfl, hres⟩
      obtain ⟨x13, y13, z13, t13, e0, e1⟩ := hres.forms
      replace e0 : u0 = .slice x13 1 y13 := e0
      subst e0
      subst e1
      obtain ⟨wn13, hwn⟩ : ∃ wn, wn = wx13.alloc (.cells #[.slice x13 1 y13, .slice z13 TD.length t13] 25) := ⟨_, rfl⟩
      have NV := va_new wx13 _ _ [(r : Int)] TD hres.1.rd hres.2.1.rd wn13 hwn
      have BX := hbx.trans (NV.2.mono hbx.size)
      have VT13 := hideP NV.1
      have OVT := hideP (And.intro hres.1 hres.2.1)
      have BB13 : Hid (Below w.heap.size w wn13) := BB12.out.trans (BX.mono BB12.out.size)
      have VK13 := hideP (VK12.out.keep BX)
      have VV13 := hideP (VV12.out.keep BX)
      have VH13 := hideP (VH12.out.keep BX)
      clear VK12 VV12 VH12 BB12 NV BX hbx hres
      go_upto_region 11 with fail
      rw [← hwn]
      clear hwn
      generalize wx13.heap.size = bVT at *
      -- step 14
      have cc0 := VH13.out.c0
      have cd0 := VH13.out.c1
      have cc1 := VT13.out.c0
      have cd1 := VT13.out.c1
      go_wp2_with fail
      clear cc0 cd0 cc1 cd1
      refine (cat_face x12 y12 z12 t12 x13 y13 z13 t13 [(i : Int)] HD [(r : Int)] TD _ (by simp) (Nat.le_trans LH2.out (by decide)) (by simp) (Nat.le_trans LT.out (by decide)) VH13.out.r0 VH13.out.r1 VT13.out.r0 VT13.out.r1 (own_at OVH.out.1 (by simp)) (own_cap1 (zs := [(i : Int)]) OVH.out.1 (by simp)) (own_at OVT.out.1 (by simp)) (own_cap1 (zs := [(r : Int)]) OVT.out.1 (by simp)) (own_at OVH.out.2) (own_at OVT.out.2) (i : Int) (r : Int) rfl rfl _ _ _ CK.out).mono ?_
      rintro e wx14 ⟨hbx, u0, u1, rfl, hres⟩
      obtain ⟨x14, y14, z14, t14, e0, e1⟩ := hres.forms
      replace e0 : u0 = .slice x14 1 y14 := e0
      subst e0
      subst e1
      obtain ⟨wn14, hwn⟩ : ∃ wn, wn = wx14.alloc (.cells #[.slice x14 1 y14, .slice z14 da.length t14] 25) := ⟨_, rfl⟩
      have NV := va_new wx14 _ _ [(m : Int)] da hres.1.rd hres.2.1.rd wn14 hwn
      have BX := hbx.trans (NV.2.mono hbx.size)
      have VC14 := hideP NV.1
      have OVC := hideP (And.intro hres.1 hres.2.1)
      have BB14 : Hid (Below w.heap.size w wn14) := BB13.out.trans (BX.mono BB13.out.size)
      have VK14 := hideP (VK13.out.keep BX)
      have VV14 := hideP (VV13.out.keep BX)
      have VH14 := hideP (VH13.out.keep BX)
      have VT14 := hideP (VT13.out.keep BX)
      clear VK13 VV13 VH13 VT13 BB13 NV BX hbx hres
      go_upto_region 12 with fail
      rw [← hwn]
      clear hwn
      generalize wx14.heap.size = bVC at *
      -- is 15
      have cc0 := VC14.out.c0
      have cd0 := VC14.out.c1
      have cc1 := VV14.out.c0
      have cd1 := VV14.out.c1
      have cm0 := VH14.out.c1
      go_wp2_with fail
      clear cc0 cd0 cc1 cd1 cm0
      refine (lwIs_yes _ _ _ _ _ _ _ L1.out (Nat.le_trans LD.out (by decide)) VC14.out.r0 VC14.out.r1 VV14.out.r0 VV14.out.r1).mono ?_
      rintro e wn15 ⟨rfl, hbx⟩
      have BB15 : Hid (Below w.heap.size w wn15) := BB14.out.trans (hbx.mono BB14.out.size)
      have VK15 := hideP (VK14.out.keep hbx)
      have VV15 := hideP (VV14.out.keep hbx)
      have VH15 := hideP (VH14.out.keep hbx)
      have VT15 := hideP (VT14.out.keep hbx)
      have VC15 := hideP (VC14.out.keep hbx)
      clear VK14 VV14 VH14 VT14 VC14 BB14 hbx
      have ch := VH15.out.c1
      have hdl := LH.out
      rw [hdl] at ch
      clear hdl
      have hi9 := HI.out.2
      go_wp2_with fail
      go_roundw
      case rel => exact ⟨i + 1, by have := HI.out; omega, by have := HI.out; omega, by go_num, VV15, BB15⟩
      case measure => have := HI.out; simp [intOf]; omega
    · have fin : (¬ (i : Int) ≤ (m : Int)) ∨ ((i : Int) ≤ (m : Int) ∧ ¬ (i : Int) < 8) := by omega
      have c1 := VV10.out.c1
      rw [HM.out] at c1
      clear hin hi8 him
      rcases fin with h1' | ⟨h1', h2'⟩
      all_goals
        go_upto_region 14 with fail
        clear c1
        have LO1 : Hid (OR.length ≤ 1000) := by have := LO.out.1; have := LD.out; show _ ≤ _; omega
        -- step 11
        have cc0 := VV10.out.c0
        have cd0 := VV10.out.c1
        go_wp2_with fail
        clear cc0 cd0
        refine (grade_face x1 y1 z1 t1 [(m : Int)] da _ L1.out (Nat.le_trans LD.out (by decide)) VV10.out.r0 VV10.out.r1 _ _ _ RG.out).mono ?_
        rintro e wx11 ⟨hbx, u0, u1, rfl, hres⟩
        obtain ⟨x11, y11, z11, t11, e0, e1⟩ := hres.forms
        replace e0 : u0 = .slice x11 1 y11 := e0
        subst e0
        subst e1
        obtain ⟨wn11, hwn⟩ : ∃ wn, wn = wx11.alloc (.cells #[.slice x11 1 y11, .slice z11 OR.length t11] 25) := ⟨_, rfl⟩
        have NV := va_new wx11 _ _ [(m : Int)] OR hres.1.rd hres.2.1.rd wn11 hwn
        have BX := hbx.trans (NV.2.mono hbx.size)
        have VO11 := hideP NV.1
        have OVO := hideP (And.intro hres.1 hres.2.1)
        have BB11 : Hid (Below w.heap.size w wn11) := BB10.out.trans (BX.mono BB10.out.size)
        have VV11 := hideP (VV10.out.keep BX)
        clear VV10 BB10 NV BX hbx hres
        go_upto_region 15 with fail
        rw [← hwn]
        clear hwn
        generalize wx11.heap.size = bVO at *
        -- step 12
        have cc0 := VO11.out.c0
        have cd0 := VO11.out.c1
        have cc1 := VV11.out.c0
        have cd1 := VV11.out.c1
        go_wp2_with fail
        clear cc0 cd0 cc1 cd1
        refine (from_face x11 y11 z11 t11 x1 y1 z1 t1 [(m : Int)] OR [(m : Int)] da _ L1.out (Nat.le_trans LO1.out (by decide)) L1.out (Nat.le_trans LD.out (by decide)) VO11.out.r0 VO11.out.r1 VV11.out.r0 VV11.out.r1 CV0.out.1 CV0.out.2 CV1.out.1 CV1.out.2 _ _ _ RF.out).mono ?_
        rintro e wx12 ⟨hbx, u0, u1, rfl, hres⟩
        obtain ⟨x12, y12, z12, t12, e0, e1⟩ := hres.forms
        replace e0 : u0 = .slice x12 1 y12 := e0
        subst e0
        subst e1
        obtain ⟨wn12, hwn⟩ : ∃ wn, wn = wx12.alloc (.cells #[.slice x12 1 y12, .slice z12 UP.length t12] 25) := ⟨_, rfl⟩
        have NV := va_new wx12 _ _ [(m : Int)] UP hres.1.rd hres.2.1.rd wn12 hwn
        have BX := hbx.trans (NV.2.mono hbx.size)
        have VP12 := hideP NV.1
        have OVP := hideP (And.intro hres.1 hres.2.1)
        have BB12 : Hid (Below w.heap.size w wn12) := BB11.out.trans (BX.mono BB11.out.size)
        have VV12 := hideP (VV11.out.keep BX)
        have VO12 := hideP (VO11.out.keep BX)
        clear VV11 VO11 BB11 NV BX hbx hres
        go_upto_region 16 with fail
        rw [← hwn]
        clear hwn
        generalize wx12.heap.size = bVP at *
        have c1 := VP12.out.c1
        have c2 := VO12.out.c1
        have c3 := VV12.out.c1
        rw [LO.out.2, HM.out] at c1
        rw [LO.out.1, HM.out] at c2
        rw [HM.out] at c3
        go_upto_region 19 with fail
        clear c1 c2 c3
        have hl1 : UP.length = m := by rw [LO.out.2, HM.out]
        have hl2 : OR.length = m := by rw [LO.out.1, HM.out]
        have HL1 := hideP hl1
        have HL2 := hideP hl2
        clear hl1 hl2
        go_loopw [19] (fun s19 wr => ∃ i : Nat, 1 ≤ i ∧ (i ≤ m ∨ i = 1) ∧ s19 = .int .i64 (i : Int) ∧ Hid (Va bVP (Value.slice x12 1 y12) (Value.slice z12 UP.length t12) [(m : Int)] UP wr) ∧ Hid (Va bVO (Value.slice x11 1 y11) (Value.slice z11 OR.length t11) [(m : Int)] OR wr) ∧ Hid (Below w.heap.size w wr)) (fun s19 _ => m + 1 - (intOf s19).toNat)
        case atStart => exact ⟨1, by omega, by omega, rfl, VP12, VO12, BB12⟩
        case round =>
          obtain ⟨k, hk1, hkm, rfl, VP13, VO13, BB13⟩ := hrel
          clear VP12 VO12 BB12 VV12
          have c1 := VP13.out.c1
          have c2 := VO13.out.c1
          rw [HL1.out] at c1
          rw [HL2.out] at c2
          by_cases hlt : k < m
          · have hlt' : (k : Int) < (m : Int) := by omega
            have MB : Hid (m ≤ 1000) := by rw [← HM.out]; exact LD.out
            obtain ⟨g1, e1⟩ := own_at OVP.out.2 (by have := HL1.out; omega)
            obtain ⟨g2, e2⟩ := own_at OVO.out.2 (by have := HL2.out; omega)
            subst e1
            subst e2
            obtain ⟨j, rfl⟩ : ∃ j, k = j + 1 := ⟨k - 1, by omega⟩
            have q1 := (rd_cell VP13.out.r1 (i := j) (by have := HL1.out; omega)).2
            have q2 := (rd_cell VP13.out.r1 (i := j + 1) (by have := HL1.out; omega)).2
            have q3 := (rd_cell VO13.out.r1 (i := j) (by have := HL2.out; omega)).2
            have q4 := (rd_cell VO13.out.r1 (i := j + 1) (by have := HL2.out; omega)).2
            have hs := SRT.out j (by omega)
            simp only [Nat.zero_add] at q1 q2 q3 q4
            have hj : j < 1000 := by have := MB.out; omega
            have HJ := hideP (show j + 1 < m from hlt)
            generalize UP.getD j 0 = xa at *
            generalize UP.getD (j + 1) 0 = xb at *
            generalize OR.getD j 0 = oa at *
            generalize OR.getD (j + 1) 0 = ob at *
            have ek : ((j + 1 : Nat) : Int) = (j : Int) + 1 := by omega
            rw [ek] at hlt' ⊢
            clear hkm hk1 hlt ek
            rcases hs with hs | ⟨hs, ho⟩
            · have d1 : decide (xb < xa) = false := by rw [decide_eq_false_iff_not]; omega
              have d2 : (xa == xb) = false := by rw [beq_eq_false_iff_ne]; omega
              have NX : Hid (∀ n, Va bVP (Value.slice x12 1 y12) (Value.slice (some ⟨g1, 0, none⟩) UP.length t12) [(m : Int)] UP (wr.drewN n) ∧ Va bVO (Value.slice x11 1 y11) (Value.slice (some ⟨g2, 0, none⟩) OR.length t11) [(m : Int)] OR (wr.drewN n) ∧ Below w.heap.size w (wr.drewN n)) := fun n => ⟨VP13.out.keep (below_drewN (Below.refl _ _) n), VO13.out.keep (below_drewN (Below.refl _ _) n), below_drewN BB13.out n⟩
              clear VP13 VO13 BB13
              go_upto_region 21 with fail
              go_quiet (fail)
              go_wp2_with fail
              go_roundw
              case rel => exact ⟨j + 2, by omega, by have := HJ.out; omega, by go_num, (NX.out _).1, (NX.out _).2.1, (NX.out _).2.2⟩
              case measure => have := HJ.out; simp [intOf]; omega
            · subst hs
              have d1 : decide (xa < xa) = false := by rw [decide_eq_false_iff_not]; omega
              have d2 : (xa == xa) = true := by simp
              have d3 : decide (ob ≤ oa) = false := by rw [decide_eq_false_iff_not]; omega
              have NX : Hid (∀ n, Va bVP (Value.slice x12 1 y12) (Value.slice (some ⟨g1, 0, none⟩) UP.length t12) [(m : Int)] UP (wr.drewN n) ∧ Va bVO (Value.slice x11 1 y11) (Value.slice (some ⟨g2, 0, none⟩) OR.length t11) [(m : Int)] OR (wr.drewN n) ∧ Below w.heap.size w (wr.drewN n)) := fun n => ⟨VP13.out.keep (below_drewN (Below.refl _ _) n), VO13.out.keep (below_drewN (Below.refl _ _) n), below_drewN BB13.out n⟩
              clear VP13 VO13 BB13
              go_upto_region 21 with fail
              go_quiet (fail)
              go_wp2_with fail
              go_roundw
              case rel => exact ⟨j + 2, by omega, by have := HJ.out; omega, by go_num, (NX.out _).1, (NX.out _).2.1, (NX.out _).2.2⟩
              case measure => have := HJ.out; simp [intOf]; omega
          · have hlt' : ¬ (k : Int) < (m : Int) := by omega
            go_wp2_with fail
            go_ret
            exact ⟨rfl, BB13.out⟩

end Go.Proofs.YtaopohihipihdaaGreatDoor
