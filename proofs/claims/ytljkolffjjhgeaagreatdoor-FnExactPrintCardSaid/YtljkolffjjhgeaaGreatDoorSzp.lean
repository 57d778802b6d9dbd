import Derived.Test.YtljkolffjjhgeaaGreatDoorSzn
namespace Go.Proofs.YtljkolffjjhgeaaGreatDoor
open Go.RowKit
set_option linter.unusedVariables false
set_option maxRecDepth 100000
set_option maxHeartbeats 4000000 in
/-- laws.szGuard -/
theorem szGuard_any (g : Pl.Gv) (a1 a2 : Option Addr) (c1 c2 : Nat) (l : Int) (w : World) (hk : Pl.okG g) (h0 : 0 ≤ l) (h1 : l ≤ 1048576) (r1 : RdS w.heap.size w a1 g.test) (r2 : RdS w.heap.size w a2 g.thn) :
    Calls Tryz.prog 31 #[.agg #[.slice a1 g.test.length c1, .slice a2 g.thn.length c2], .int .i64 l] w fun e w' => e = .returned (.int .i64 (Pl.sb l (Pl.wG g))) ∧ Below w.heap.size w w' := by
  have HB : Hid (∀ o, Below w.heap.size w (w.alloc o)) := fun o => (Below.refl _ _).alloc (Nat.le_refl _) _
  have K1 : Hid (∀ o, Calls Tryz.prog 15 #[.slice a1 g.test.length c1, .int .i64 l] (w.alloc o) fun e w2 => e = .returned (.int .i64 (Pl.sb l (Pl.wC g.test))) ∧ Below (w.alloc o).heap.size (w.alloc o) w2) := fun o => szStepS_any g.test a1 c1 l (w.alloc o) hk.1 h0 h1 ((r1.keep (HB.out o)).up (HB.out o).size)
  have K2 : Hid (∀ q w', 0 ≤ q → q ≤ 1048576 → Below w.heap.size w w' → Calls Tryz.prog 15 #[.slice a2 g.thn.length c2, .int .i64 q] w' fun e w2 => e = .returned (.int .i64 (Pl.sb q (Pl.wC g.thn))) ∧ Below w'.heap.size w' w2) := fun q w' g0 g1 h => szStepS_any g.thn a2 c2 q w' hk.2 g0 g1 ((r2.keep h).up h.size)
  have HV : Hid (Pl.sb l (Pl.wG g) = if l < (Pl.wC g.test + Pl.wC g.thn : Nat) then -1 else l - (Pl.wC g.test + Pl.wC g.thn : Nat)) := rfl
  have C : Hid (∀ (w1 w' : World) (j : Nat) (v : Value), Below w1.heap.size w1 w' → w.heap.size < w1.heap.size → w1.cell? ⟨w.heap.size, j, none⟩ = some v → w'.cell? ⟨w.heap.size, j, none⟩ = some v) := fun w1 w' j v hb h1 h => (hb.cell (p := ⟨w.heap.size, j, none⟩) h1).trans h
  clear r1 r2 hk
  generalize Pl.sb l (Pl.wG g) = r at *
  generalize Pl.wC g.test = n1 at *
  generalize Pl.wC g.thn = n2 at *
  generalize g.test.length = l1 at *
  generalize g.thn.length = l2 at *
  by_cases g1 : l < n1
  · have HR := hideP (show r = -1 by rw [HV.out, if_pos (by omega)])
    have E : Hid (Pl.sb l n1 = -1) := by show _ = _; unfold Pl.sb; rw [if_pos g1]
    rw [E.out] at K1
    go_enter Tryz.func31, Tryz.ntmps31
    go_wp2_with (go_at_call 15; refine (K1.out _).mono ?_; rintro e w2 ⟨rfl, hb2⟩)
    go_ret
    exact ⟨by rw [HR.out]; rfl, (HB.out _).trans (hb2.mono (by simp))⟩
  · have E : Hid (Pl.sb l n1 = l - n1) := by show _ = _; unfold Pl.sb; rw [if_neg g1]
    rw [E.out] at K1
    have K3 := hideP (fun w' h => K2.out (l - n1) w' (by omega) (by omega) h)
    have g2 : ¬ (l - (n1 : Int) < 0) := by omega
    by_cases g3 : l - (n1 : Int) < n2
    · have HR := hideP (show r = -1 by rw [HV.out, if_pos (by omega)])
      have E3 : Hid (Pl.sb (l - n1) n2 = -1) := by show _ = _; unfold Pl.sb; rw [if_pos g3]
      rw [E3.out] at K3
      go_enter Tryz.func31, Tryz.ntmps31
      go_wp2_with fail
      refine (K1.out _).mono ?_
      rintro e w2 ⟨rfl, hb2⟩
      have d1 := C.out _ _ 1 _ hb2 (by simp) (by simp [go_sem]; rfl)
      have B2 := hideP ((HB.out _).trans (hb2.mono (by simp)))
      clear hb2
      go_wp2_with (go_at_call 15; refine (K3.out _ B2.out).mono ?_; rintro e w3 ⟨rfl, hb3⟩)
      go_ret
      exact ⟨by rw [HR.out]; rfl, B2.out.trans (hb3.mono B2.out.size)⟩
    · have HR := hideP (show r = l - n1 - n2 by rw [HV.out, if_neg (by omega)]; omega)
      have E3 : Hid (Pl.sb (l - n1) n2 = l - n1 - n2) := by show _ = _; unfold Pl.sb; rw [if_neg g3]
      rw [E3.out] at K3
      have g4 : ¬ (l - (n1 : Int) - n2 < 0) := by omega
      go_enter Tryz.func31, Tryz.ntmps31
      go_wp2_with fail
      refine (K1.out _).mono ?_
      rintro e w2 ⟨rfl, hb2⟩
      have d1 := C.out _ _ 1 _ hb2 (by simp) (by simp [go_sem]; rfl)
      have B2 := hideP ((HB.out _).trans (hb2.mono (by simp)))
      clear hb2
      go_wp2_with (go_at_call 15; refine (K3.out _ B2.out).mono ?_; rintro e w3 ⟨rfl, hb3⟩)
      go_ret
      exact ⟨by rw [HR.out]; rfl, B2.out.trans (hb3.mono B2.out.size)⟩
set_option maxHeartbeats 4000000 in
/-- laws.szGuardS -/
theorem szGuardS_any (c : List Pl.Gv) (ao : Option Addr) (cap : Nat) (l : Int) (w : World) (hk : Pl.okGs c) (h0 : 0 ≤ l) (h1 : l ≤ 1048576) (hR : RdG w.heap.size w ao c) :
    Calls Tryz.prog 16 #[.slice ao c.length cap, .int .i64 l] w fun e w' => e = .returned (.int .i64 (Pl.sb l (Pl.wGs c))) ∧ Below w.heap.size w w' := by
  obtain ⟨o1, o2⟩ := hk
  have HG : Hid (∀ k, k < c.length → ∃ s b off, c[k]? = some s ∧ s ∈ c ∧ ao = some ⟨b, off, none⟩ ∧ b < w.heap.size ∧ (∃ a1 a2 c1 c2, ∀ w', Below w.heap.size w w' → Gd w.heap.size w' b (off + k * 2) s a1 a2 c1 c2) ∧ ((c.take (k + 1)).map Pl.wG).sum = ((c.take k).map Pl.wG).sum + Pl.wG s ∧ ((c.take (k + 1)).map Pl.wG).sum ≤ (c.map Pl.wG).sum) := fun k hk => by
    rcases hR with rfl | ⟨b, off, hb, rfl, hc⟩
    · cases hk
    · obtain ⟨a1, a2, c1, c2, h⟩ := hc k c[k] (List.getElem?_eq_getElem hk)
      exact ⟨c[k], b, off, List.getElem?_eq_getElem hk, List.getElem_mem hk, rfl, hb, ⟨a1, a2, c1, c2, fun w' hw => h.keep hb hw⟩, Pl.sum_take_succ _ (List.getElem?_eq_getElem hk), Pl.sum_take_le _ _ _⟩
  have HO : Hid (∀ s ∈ c, Pl.okG s) := o2
  have HV : Hid (Pl.sb l (Pl.wGs c) = if l < (c.length + (c.map Pl.wG).sum : Nat) then -1 else l - (c.length + (c.map Pl.wG).sum : Nat)) := rfl
  have HE : Hid (((c.take c.length).map Pl.wG).sum = (c.map Pl.wG).sum) := by show _ = _; rw [List.take_length]
  have HZ : Hid (((c.take 0).map Pl.wG).sum = 0) := rfl
  clear hR o2
  generalize Pl.sb l (Pl.wGs c) = r at *
  generalize hT : (c.map Pl.wG).sum = T at *
  clear hT
  generalize hL : c.length = L at *
  clear hL
  by_cases g : l - (L : Int) < 0
  · have HR := hideP (show r = -1 by rw [HV.out, if_pos (by omega)])
    go_enter Tryz.func16, Tryz.ntmps16
    go_wp2
    go_ret
    exact ⟨by rw [HR.out]; rfl, Below.refl _ _⟩
  · go_enter Tryz.func16, Tryz.ntmps16
    go_wp2
    go_loopw [1, 5] (fun u v wr => ∃ (k : Nat) (q : Int), k ≤ L ∧ v = .int .i64 k ∧ u = .int .i64 q ∧ 0 ≤ q ∧ q ≤ 1048576 ∧ Hid (q = l - L - (((c.take k).map Pl.wG).sum : Nat)) ∧ Hid (Below w.heap.size w wr)) (fun _ v _ => L - (intOf v).toNat)
    case atStart => exact ⟨0, _, Nat.zero_le _, rfl, rfl, by omega, by omega, by show _ = _; rw [HZ.out]; simp, Below.refl _ _⟩
    case round =>
      obtain ⟨k, q, hk, rfl, rfl, hq0, hq1, hq, BB⟩ := hrel
      by_cases hlt : k < L
      · obtain ⟨s, b, off, hs, hm, rfl, hb, ⟨a1, a2, c1, c2, hst⟩, hsum, hle⟩ := HG.out k hlt
        obtain ⟨g0, g1', rr1, rr2⟩ := hst _ BB.out
        have K := hideP (szGuard_any s a1 a2 c1 c2 q wr (HO.out s hm) hq0 hq1 (rr1.up BB.out.size) (rr2.up BB.out.size))
        clear rr1 rr2 hst
        generalize s.test.length = l1 at *
        generalize s.thn.length = l2 at *
        have HSM := hideP hsum
        have HQ := hideP (show q - Pl.wG s = l - L - (((c.take (k + 1)).map Pl.wG).sum : Nat) by rw [HSM.out, hq.out]; omega)
        have HLE := hideP (show (((c.take (k + 1)).map Pl.wG).sum) ≤ T from hle)
        clear HG HO HE HZ hs hm hsum hle
        by_cases g1 : q < Pl.wG s
        · have HR := hideP (show r = -1 by
            have := HLE.out
            have := HQ.out
            rw [HV.out, if_pos (by omega)])
          have E : Hid (Pl.sb q (Pl.wG s) = -1) := by show _ = _; unfold Pl.sb; rw [if_pos g1]
          rw [E.out] at K
          clear g1 HQ
          generalize Pl.wG s = ws at *
          go_wp2_with (go_at_call 31; refine K.out.mono ?_; rintro e w2 ⟨rfl, hb2⟩)
          go_ret
          exact ⟨by rw [HR.out]; rfl, BB.out.trans (hb2.mono BB.out.size)⟩
        · have E : Hid (Pl.sb q (Pl.wG s) = q - Pl.wG s) := by show _ = _; unfold Pl.sb; rw [if_neg g1]
          rw [E.out] at K
          generalize Pl.wG s = ws at *
          have g2 : ¬ (q - (ws : Int) < 0) := by omega
          go_wp2_with (go_at_call 31; refine K.out.mono ?_; rintro e w2 ⟨rfl, hb2⟩)
          go_roundw
          case rel => exact ⟨k + 1, _, by omega, by go_num, rfl, by omega, by omega, HQ, BB.out.trans (hb2.mono BB.out.size)⟩
          case measure => simp [intOf]; omega
      · obtain rfl : k = L := by omega
        have HR := hideP (show r = q by
          have := hq.out
          rw [HE.out] at this
          rw [HV.out, if_neg (by omega)]
          omega)
        clear HG HO HE HZ
        go_wp2
        go_ret
        exact ⟨by rw [HR.out]; rfl, BB.out⟩
set_option maxHeartbeats 8000000 in
/-- laws.szStmt -/
theorem szStmt_any (s : Pl.Tv) (a1 a2 : Option Addr) (c1 c2 : Nat) (l : Int) (w : World) (hk : Pl.okT s) (h0 : 0 ≤ l) (h1 : l ≤ 1048576) (r1 : RdS w.heap.size w a1 s.code) (r2 : RdG w.heap.size w a2 s.gs) :
    Calls Tryz.prog 9 #[.agg #[.int .i64 s.k, .string (Pl.ba s.nm), .slice a1 s.code.length c1, .slice a2 s.gs.length c2], .int .i64 l] w fun e w' => e = .returned (.int .i64 (Pl.sb l (Pl.wT s))) ∧ Below w.heap.size w w' := by
  obtain ⟨o1, o2, o3⟩ := hk
  have HB : Hid (∀ o, Below w.heap.size w (w.alloc o)) := fun o => (Below.refl _ _).alloc (Nat.le_refl _) _
  have K1 : Hid (∀ q o, 0 ≤ q → q ≤ 1048576 → Calls Tryz.prog 15 #[.slice a1 s.code.length c1, .int .i64 q] (w.alloc o) fun e w2 => e = .returned (.int .i64 (Pl.sb q (Pl.wC s.code))) ∧ Below (w.alloc o).heap.size (w.alloc o) w2) := fun q o g0 g1 => szStepS_any s.code a1 c1 q (w.alloc o) o2 g0 g1 ((r1.keep (HB.out o)).up (HB.out o).size)
  have K2 : Hid (∀ q w', 0 ≤ q → q ≤ 1048576 → Below w.heap.size w w' → Calls Tryz.prog 16 #[.slice a2 s.gs.length c2, .int .i64 q] w' fun e w2 => e = .returned (.int .i64 (Pl.sb q (Pl.wGs s.gs))) ∧ Below w'.heap.size w' w2) := fun q w' g0 g1 h => szGuardS_any s.gs a2 c2 q w' o3 g0 g1 ((r2.keep h).up h.size)
  have HV : Hid (Pl.sb l (Pl.wT s) = if l < (s.nm.length + Pl.wC s.code + Pl.wGs s.gs : Nat) then -1 else l - (s.nm.length + Pl.wC s.code + Pl.wGs s.gs : Nat)) := rfl
  have C : Hid (∀ (w1 w' : World) (j : Nat) (v : Value), Below w1.heap.size w1 w' → w.heap.size < w1.heap.size → w1.cell? ⟨w.heap.size, j, none⟩ = some v → w'.cell? ⟨w.heap.size, j, none⟩ = some v) := fun w1 w' j v hb h1 h => (hb.cell (p := ⟨w.heap.size, j, none⟩) h1).trans h
  have hs : (Pl.ba s.nm).size = s.nm.length := rfl
  clear r1 r2 o2 o3
  generalize Pl.sb l (Pl.wT s) = r at *
  generalize Pl.wC s.code = n1 at *
  generalize Pl.wGs s.gs = n2 at *
  generalize s.nm.length = n0 at *
  generalize Pl.ba s.nm = nm at *
  generalize s.code.length = l1 at *
  generalize s.gs.length = l2 at *
  generalize s.k = kk at *
  by_cases g0 : l - (n0 : Int) < 0
  · have HR := hideP (show r = -1 by rw [HV.out, if_pos (by omega)])
    go_enter Tryz.func9, Tryz.ntmps9
    go_wp2
    go_ret
    exact ⟨by rw [HR.out]; rfl, HB.out _⟩
  have K1 := hideP (fun o => K1.out (l - n0) o (by omega) (by omega))
  by_cases g1 : l - (n0 : Int) < n1
  · have HR := hideP (show r = -1 by rw [HV.out, if_pos (by omega)])
    have E : Hid (Pl.sb (l - n0) n1 = -1) := by show _ = _; unfold Pl.sb; rw [if_pos g1]
    rw [E.out] at K1
    go_enter Tryz.func9, Tryz.ntmps9
    go_wp2_with (go_at_call 15; refine (K1.out _).mono ?_; rintro e w2 ⟨rfl, hb2⟩)
    go_ret
    exact ⟨by rw [HR.out]; rfl, (HB.out _).trans (hb2.mono (by simp))⟩
  · have E : Hid (Pl.sb (l - n0) n1 = l - n0 - n1) := by show _ = _; unfold Pl.sb; rw [if_neg g1]
    rw [E.out] at K1
    have K3 := hideP (fun w' h => K2.out (l - n0 - n1) w' (by omega) (by omega) h)
    have g2 : ¬ (l - (n0 : Int) - (n1 : Int) < 0) := by omega
    by_cases g3 : l - (n0 : Int) - (n1 : Int) < n2
    · have HR := hideP (show r = -1 by rw [HV.out, if_pos (by omega)])
      have E3 : Hid (Pl.sb (l - n0 - n1) n2 = -1) := by show _ = _; unfold Pl.sb; rw [if_pos g3]
      rw [E3.out] at K3
      go_enter Tryz.func9, Tryz.ntmps9
      go_wp2_with fail
      refine (K1.out _).mono ?_
      rintro e w2 ⟨rfl, hb2⟩
      have d3 := C.out _ _ 3 _ hb2 (by simp) (by simp [go_sem]; rfl)
      have B2 := hideP ((HB.out _).trans (hb2.mono (by simp)))
      clear hb2
      go_wp2_with (go_at_call 16; refine (K3.out _ B2.out).mono ?_; rintro e w3 ⟨rfl, hb3⟩)
      go_ret
      exact ⟨by rw [HR.out]; rfl, B2.out.trans (hb3.mono B2.out.size)⟩
    · have HR := hideP (show r = l - n0 - n1 - n2 by rw [HV.out, if_neg (by omega)]; omega)
      have E3 : Hid (Pl.sb (l - n0 - n1) n2 = l - n0 - n1 - n2) := by show _ = _; unfold Pl.sb; rw [if_neg g3]
      rw [E3.out] at K3
      have g4 : ¬ (l - (n0 : Int) - (n1 : Int) - n2 < 0) := by omega
      go_enter Tryz.func9, Tryz.ntmps9
      go_wp2_with fail
      refine (K1.out _).mono ?_
      rintro e w2 ⟨rfl, hb2⟩
      have d3 := C.out _ _ 3 _ hb2 (by simp) (by simp [go_sem]; rfl)
      have B2 := hideP ((HB.out _).trans (hb2.mono (by simp)))
      clear hb2
      go_wp2_with (go_at_call 16; refine (K3.out _ B2.out).mono ?_; rintro e w3 ⟨rfl, hb3⟩)
      go_ret
      exact ⟨by rw [HR.out]; rfl, B2.out.trans (hb3.mono B2.out.size)⟩
set_option maxHeartbeats 4000000 in
/-- laws.szStmtS -/
theorem szStmtS_any (c : List Pl.Tv) (ao : Option Addr) (cap : Nat) (l : Int) (w : World) (hk : Pl.okP' c) (h0 : 0 ≤ l) (h1 : l ≤ 1048576) (hR : RdP w.heap.size w ao c) :
    Calls Tryz.prog 4 #[.slice ao c.length cap, .int .i64 l] w fun e w' => e = .returned (.int .i64 (Pl.sb l (Pl.wP c))) ∧ Below w.heap.size w w' := by
  obtain ⟨o1, o2⟩ := hk
  have HG : Hid (∀ k, k < c.length → ∃ s b off, c[k]? = some s ∧ s ∈ c ∧ ao = some ⟨b, off, none⟩ ∧ b < w.heap.size ∧ (∃ a1 a2 c1 c2, ∀ w', Below w.heap.size w w' → Sm w.heap.size w' b (off + k * 4) s a1 a2 c1 c2) ∧ ((c.take (k + 1)).map Pl.wT).sum = ((c.take k).map Pl.wT).sum + Pl.wT s ∧ ((c.take (k + 1)).map Pl.wT).sum ≤ (c.map Pl.wT).sum) := fun k hk => by
    rcases hR with rfl | ⟨b, off, hb, rfl, hc⟩
    · cases hk
    · obtain ⟨a1, a2, c1, c2, h⟩ := hc k c[k] (List.getElem?_eq_getElem hk)
      exact ⟨c[k], b, off, List.getElem?_eq_getElem hk, List.getElem_mem hk, rfl, hb, ⟨a1, a2, c1, c2, fun w' hw => h.keep hb hw⟩, Pl.sum_take_succ _ (List.getElem?_eq_getElem hk), Pl.sum_take_le _ _ _⟩
  have HO : Hid (∀ s ∈ c, Pl.okT s) := o2
  have HV : Hid (Pl.sb l (Pl.wP c) = if l < (c.length + (c.map Pl.wT).sum : Nat) then -1 else l - (c.length + (c.map Pl.wT).sum : Nat)) := rfl
  have HE : Hid (((c.take c.length).map Pl.wT).sum = (c.map Pl.wT).sum) := by show _ = _; rw [List.take_length]
  have HZ : Hid (((c.take 0).map Pl.wT).sum = 0) := rfl
  clear hR o2
  generalize Pl.sb l (Pl.wP c) = r at *
  generalize hT : (c.map Pl.wT).sum = T at *
  clear hT
  generalize hL : c.length = L at *
  clear hL
  by_cases g : l - (L : Int) < 0
  · have HR := hideP (show r = -1 by rw [HV.out, if_pos (by omega)])
    go_enter Tryz.func4, Tryz.ntmps4
    go_wp2
    go_ret
    exact ⟨by rw [HR.out]; rfl, Below.refl _ _⟩
  · go_enter Tryz.func4, Tryz.ntmps4
    go_wp2
    go_loopw [1, 5] (fun u v wr => ∃ (k : Nat) (q : Int), k ≤ L ∧ v = .int .i64 k ∧ u = .int .i64 q ∧ 0 ≤ q ∧ q ≤ 1048576 ∧ Hid (q = l - L - (((c.take k).map Pl.wT).sum : Nat)) ∧ Hid (Below w.heap.size w wr)) (fun _ v _ => L - (intOf v).toNat)
    case atStart => exact ⟨0, _, Nat.zero_le _, rfl, rfl, by omega, by omega, by show _ = _; rw [HZ.out]; simp, Below.refl _ _⟩
    case round =>
      obtain ⟨k, q, hk, rfl, rfl, hq0, hq1, hq, BB⟩ := hrel
      by_cases hlt : k < L
      · obtain ⟨s, b, off, hs, hm, rfl, hb, ⟨a1, a2, c1, c2, hst⟩, hsum, hle⟩ := HG.out k hlt
        obtain ⟨g0, g1', g2', g3', rr1, rr2⟩ := hst _ BB.out
        have K := hideP (szStmt_any s a1 a2 c1 c2 q wr (HO.out s hm) hq0 hq1 (rr1.up BB.out.size) (rr2.up BB.out.size))
        clear rr1 rr2 hst
        generalize Pl.ba s.nm = nm at *
        generalize s.code.length = l1 at *
        generalize s.gs.length = l2 at *
        generalize s.k = kk at *
        have HSM := hideP hsum
        have HQ := hideP (show q - Pl.wT s = l - L - (((c.take (k + 1)).map Pl.wT).sum : Nat) by rw [HSM.out, hq.out]; omega)
        have HLE := hideP (show (((c.take (k + 1)).map Pl.wT).sum) ≤ T from hle)
        clear HG HO HE HZ hs hm hsum hle
        by_cases g1 : q < Pl.wT s
        · have HR := hideP (show r = -1 by
            have := HLE.out
            have := HQ.out
            rw [HV.out, if_pos (by omega)])
          have E : Hid (Pl.sb q (Pl.wT s) = -1) := by show _ = _; unfold Pl.sb; rw [if_pos g1]
          rw [E.out] at K
          clear g1 HQ
          generalize Pl.wT s = ws at *
          go_wp2_with (go_at_call 9; refine K.out.mono ?_; rintro e w2 ⟨rfl, hb2⟩)
          go_ret
          exact ⟨by rw [HR.out]; rfl, BB.out.trans (hb2.mono BB.out.size)⟩
        · have E : Hid (Pl.sb q (Pl.wT s) = q - Pl.wT s) := by show _ = _; unfold Pl.sb; rw [if_neg g1]
          rw [E.out] at K
          generalize Pl.wT s = ws at *
          have g2 : ¬ (q - (ws : Int) < 0) := by omega
          go_wp2_with (go_at_call 9; refine K.out.mono ?_; rintro e w2 ⟨rfl, hb2⟩)
          go_roundw
          case rel => exact ⟨k + 1, _, by omega, by go_num, rfl, by omega, by omega, HQ, BB.out.trans (hb2.mono BB.out.size)⟩
          case measure => simp [intOf]; omega
      · obtain rfl : k = L := by omega
        have HR := hideP (show r = q by
          have := hq.out
          rw [HE.out] at this
          rw [HV.out, if_neg (by omega)]
          omega)
        clear HG HO HE HZ
        go_wp2
        go_ret
        exact ⟨by rw [HR.out]; rfl, BB.out⟩
end Go.Proofs.YtljkolffjjhgeaaGreatDoor
