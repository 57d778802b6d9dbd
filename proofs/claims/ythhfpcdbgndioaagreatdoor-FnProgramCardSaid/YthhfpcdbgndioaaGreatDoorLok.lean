import Derived.Test.YthhfpcdbgndioaaGreatDoorItf
namespace Go.Proofs.YthhfpcdbgndioaaGreatDoor
open Go.RowKit
set_option linter.unusedVariables false
set_option maxRecDepth 100000
namespace Pl
structure SmallT (s : Tv) : Prop where
  code : Small s.code
  nm : s.nm.length ≤ 1048576
  gs : ∀ g ∈ s.gs, Small g.test ∧ Small g.thn
structure SmallP (p : List Tv) : Prop where
  sz : psz p ≤ 1048576
  st : ∀ s ∈ p, SmallT s
theorem SmallP.len {p : List Tv} (h : SmallP p) : p.length ≤ 1048576 := by have := psz_eq p; have := h.sz; omega
def okP (p : List Tv) : Bool := decide (psz p ≤ 16000) && p.all (stB nt)
theorem okP_bad {p : List Tv} {s : Tv} (hs : s ∈ p) (h : stB nt s = false) : okP p = false := by
  have : p.all (stB nt) = false := by
    cases e : p.all (stB nt) with
    | false => rfl
    | true => have := List.all_eq_true.1 e s hs; rw [h] at this; cases this
  unfold okP
  rw [this, Bool.and_false]
theorem okP_succ {p : List Tv} {k : Nat} {s : Tv} (h : p[k]? = some s) : (p.take (k + 1)).all (stB nt) = ((p.take k).all (stB nt) && stB nt s) := by
  rw [List.take_add_one, h, List.all_append]
  simp
theorem okP_all {p : List Tv} {k : Nat} (hz : psz p ≤ 16000) (hk : k = p.length) (h : (p.take k).all (stB nt) = true) : okP p = true := by
  rw [hk, List.take_length] at h
  unfold okP
  rw [h, decide_eq_true hz]
  rfl
def gB (g : Gv) : Bool := (xt nt g.test).isSome && (xt nt g.thn).isSome
theorem gB_succ {p : List Gv} {k : Nat} {g : Gv} (h : p[k]? = some g) : (p.take (k + 1)).all gB = ((p.take k).all gB && gB g) := by
  rw [List.take_add_one, h, List.all_append]
  simp
theorem gB_bad {p : List Gv} {g : Gv} (hs : g ∈ p) (h : gB g = false) : p.all gB = false := by
  cases e : p.all gB with
  | false => rfl
  | true => have := List.all_eq_true.1 e g hs; rw [h] at this; cases this
theorem len_csz {p : List Tv} {s : Tv} (hs : s ∈ p) (h : psz p ≤ 1048576) : s.gs.length ≤ 1048576 := by
  have : ssz s ≤ (p.map ssz).sum := by
    clear h
    induction p with
    | nil => cases hs
    | cons x p ih =>
      rw [List.map_cons, List.sum_cons]
      rcases List.mem_cons.1 hs with rfl | h
      · omega
      · have := ih h; omega
  unfold psz at h
  have := ssz_eq s
  omega
end Pl
theorem self_beq (l : List UInt8) : ((Pl.ba l).toList == [115, 101, 108, 102]) = decide (l = Pl.selfW) := by
  rw [ByteArray.toList_eq]
  show (l == Pl.selfW) = _
  by_cases h : l = Pl.selfW
  · rw [h]; rfl
  · rw [decide_eq_false h]; exact beq_eq_false_iff_ne.2 h
set_option maxHeartbeats 16000000 in
/-- spec.l3Ok -/
theorem l3Ok_any (p : List Pl.Tv) (ao : Option Addr) (cap : Nat) (hsm : Pl.SmallP p) (w : World) (hR : RdP w.heap.size w ao p) :
    Calls Tryz.prog 13 #[.slice ao p.length cap] w fun e w' => e = .returned (.bool (Pl.okP p)) ∧ Below w.heap.size w w' := by
  have K0 := hideP (l3SizeOk_any p ao cap hsm.sz w hR)
  by_cases hz : Pl.psz p ≤ 16000
  · rw [decide_eq_true hz] at K0
    rcases hR with rfl | ⟨b, off, hb, rfl, hc⟩
    · go_enter Tryz.func13, Tryz.ntmps13
      go_wp2_with (go_at_call 20; refine K0.out.mono ?_; rintro e w' ⟨rfl, hb2⟩)
      go_loop [3] (fun v => v = .int .i64 0) (fun v => 0)
      case atStart => rfl
      case round =>
        obtain rfl := hrel
        go_wp2
        go_ret
        exact ⟨rfl, hb2⟩
    have HC := hideP hc
    have HG : Hid (∀ k, k < p.length → ∃ s, p[k]? = some s ∧ s ∈ p) := fun k hk => ⟨p[k], List.getElem?_eq_getElem hk, List.getElem_mem hk⟩
    have HX : Hid (∀ s ∈ p, Pl.stB Pl.nt s = false → Pl.okP p = false) := fun s hs h => Pl.okP_bad hs h
    have HS : Hid (∀ k s, p[k]? = some s → (p.take (k + 1)).all (Pl.stB Pl.nt) = ((p.take k).all (Pl.stB Pl.nt) && Pl.stB Pl.nt s)) := fun k s => Pl.okP_succ
    have HE : Hid (∀ k, k = p.length → (p.take k).all (Pl.stB Pl.nt) = true → Pl.okP p = true) := fun k hk h => Pl.okP_all hz hk h
    have HM := hideP hsm
    have hlen := hsm.len
    clear hc hsm hz
    generalize Pl.okP p = r at *
    generalize hL : p.length = L at *
    go_enter Tryz.func13, Tryz.ntmps13
    go_wp2_with (go_at_call 20; refine K0.out.mono ?_; rintro e w1 ⟨rfl, hb1⟩)
    have HB1 := hideP hb1
    clear hb1
    go_loopw [3] (fun v wr => ∃ k : Nat, k ≤ L ∧ v = .int .i64 k ∧ Hid ((p.take k).all (Pl.stB Pl.nt) = true) ∧ Hid (Below w.heap.size w wr)) (fun v _ => L - (intOf v).toNat)
    case atStart => exact ⟨0, Nat.zero_le _, rfl, rfl, HB1.out⟩
    case round =>
      rename World => wo
      obtain ⟨k, hk, rfl, hall, hbel⟩ := hrel
      by_cases hlt : k < L
      · obtain ⟨s, hs, hm⟩ := HG.out k hlt
        obtain ⟨a1, a2, c1, c2, hsm⟩ := HC.out k s hs
        obtain ⟨d0, d1, d2, d3, rc, rg⟩ := hsm.keep hb hbel.out
        have X := hideP (HX.out s hm)
        have A := hideP (HS.out k s hs)
        have T := hideP (HM.out.st s hm)
        have hgl := Pl.len_csz hm HM.out.sz
        have HST : Hid (Pl.stB Pl.nt s = ((Pl.xt Pl.nt s.code).isSome && (decide (s.k = 3) || decide (s.gs.length = 0)) && (!(decide (s.k = 1)) || decide (s.nm = [])) && (!(decide (s.k = 2)) || Pl.nameS (Pl.ba s.nm) 119) && (!(decide (s.k = 3)) || (Pl.nameS (Pl.ba s.nm) 70 && !(decide (s.nm = Pl.selfW)))) && decide (1 ≤ s.k) && decide (s.k ≤ 3) && s.gs.all Pl.gB)) := by
          show _ = _
          rw [Pl.nameS_w, Pl.nameS_F]
          have e : decide (s.gs = []) = decide (s.gs.length = 0) := by
            rw [Bool.eq_iff_iff]; simp
          unfold Pl.stB
          rw [e]
          rfl
        have KC : Hid (∀ w', Below w.heap.size wo w' → Calls Tryz.prog 21 #[.slice a1 s.code.length c1] w' fun e w2 => e = .returned (.bool (Pl.xt Pl.nt s.code).isSome) ∧ Below w'.heap.size w' w2) := fun w' hw => l3CodeOk_any s.code a1 c1 T.out.code w' ((rc.keep hw).up (Nat.le_trans hbel.out.size hw.size))
        have KN : Hid (∀ kd w', Calls Tryz.prog 22 #[.string (Pl.ba s.nm), .int .u8 kd] w' fun e w2 => e = .returned (.bool (Pl.nameS (Pl.ba s.nm) kd)) ∧ Below w'.heap.size w' w2) := fun kd w' => l3NameOk_any (Pl.ba s.nm) kd w' (by rw [Pl.ba_size]; have := T.out.nm; omega)
        have hnq := ba_beq s.nm
        have hsq := self_beq s.nm
        have HRG : Hid (∀ w', Below w.heap.size wo w' → RdG w.heap.size w' a2 s.gs) := fun w' h => rg.keep h
        have HTG : Hid (∀ g ∈ s.gs, Pl.Small g.test ∧ Pl.Small g.thn) := T.out.gs
        have hbs := hbel.out.size
        have BA : Hid (∀ o', Below w.heap.size wo (wo.alloc o')) := fun o' => (Below.refl _ _).alloc hbs _
        have CC : Hid (∀ (w1 w' : World) (j : Nat) (v : Value), Below w1.heap.size w1 w' → wo.heap.size < w1.heap.size → w1.cell? ⟨wo.heap.size, j, none⟩ = some v → w'.cell? ⟨wo.heap.size, j, none⟩ = some v) := fun w1 w' j v hb h1 h => (hb.cell (p := ⟨wo.heap.size, j, none⟩) h1).trans h
        clear HC HG HX HS HE HM hs hm hsm rc rg T
        generalize Pl.stB Pl.nt s = st at *
        generalize (Pl.xt Pl.nt s.code).isSome = xc at *
        generalize s.code.length = cl at *
        generalize decide (s.nm = []) = n0 at *
        generalize decide (s.nm = Pl.selfW) = ns at *
        generalize Pl.ba s.nm = nm at *
        generalize s.k = kk at *
        generalize hG : s.gs.length = G at *
        cases xc
        · skip
          have HR := hideP (X.out (by rw [HST.out]; simp []))
          go_wp2_with fail
          refine (KC.out _ (BA.out _)).mono ?_
          rintro e w2 ⟨rfl, hb2⟩
          have e0 := CC.out _ _ 0 _ hb2 (by simp) (by simp [go_sem]; rfl)
          have e1 := CC.out _ _ 1 _ hb2 (by simp) (by simp [go_sem]; rfl)
          have e2 := CC.out _ _ 2 _ hb2 (by simp) (by simp [go_sem]; rfl)
          have e3 := CC.out _ _ 3 _ hb2 (by simp) (by simp [go_sem]; rfl)
          have H2 := hideP ((BA.out _).trans (hb2.mono (by simp; omega)))
          have hs2 : wo.heap.size < w2.heap.size := Nat.lt_of_lt_of_le (by simp) hb2.size
          clear hb2 d0 d1 d2 d3
          go_wp2_with fail
          go_ret
          exact ret_below HR.out (hbel.out.trans (H2.out))
        by_cases k3 : kk = 3
        · subst k3
          cases hq : Pl.nameS nm 70
          · have KN := hideP (KN.out 70)
            rw [hq] at KN
            have HR := hideP (X.out (by rw [HST.out]; simp [hq]))
            go_wp2_with fail
            refine (KC.out _ (BA.out _)).mono ?_
            rintro e w2 ⟨rfl, hb2⟩
            have e0 := CC.out _ _ 0 _ hb2 (by simp) (by simp [go_sem]; rfl)
            have e1 := CC.out _ _ 1 _ hb2 (by simp) (by simp [go_sem]; rfl)
            have e2 := CC.out _ _ 2 _ hb2 (by simp) (by simp [go_sem]; rfl)
            have e3 := CC.out _ _ 3 _ hb2 (by simp) (by simp [go_sem]; rfl)
            have H2 := hideP ((BA.out _).trans (hb2.mono (by simp; omega)))
            have hs2 : wo.heap.size < w2.heap.size := Nat.lt_of_lt_of_le (by simp) hb2.size
            clear hb2 d0 d1 d2 d3
            go_wp2_with (go_at_call 22; refine (KN.out _).mono ?_; rintro e w3 ⟨rfl, hb3⟩)
            go_ret
            exact ret_below HR.out (hbel.out.trans (H2.out.trans (hb3.mono (by have := H2.out.size; omega))))
          have KN := hideP (KN.out 70)
          rw [hq] at KN
          cases ns
          · have HN := hideP (show st = s.gs.all Pl.gB by rw [HST.out]; simp [hq])
            clear HST hq
            have HGG : Hid (∀ j, j < G → ∃ g, s.gs[j]? = some g ∧ g ∈ s.gs) := fun j hj => ⟨s.gs[j]'(by omega), List.getElem?_eq_getElem _, List.getElem_mem _⟩
            have HGS : Hid (∀ j g, s.gs[j]? = some g → (s.gs.take (j + 1)).all Pl.gB = ((s.gs.take j).all Pl.gB && Pl.gB g)) := fun j g => Pl.gB_succ
            have HGB : Hid (∀ g ∈ s.gs, Pl.gB g = false → s.gs.all Pl.gB = false) := fun g hg h => Pl.gB_bad hg h
            have HNE : Hid (∀ j, j < G → s.gs ≠ []) := fun j hj e => by rw [e] at hG; simp at hG; omega
            have HGE : Hid (∀ j, j = G → s.gs.take j = s.gs) := fun j hj => by rw [hj, ← hG, List.take_length]
            clear hG
            go_wp2_with fail
            refine (KC.out _ (BA.out _)).mono ?_
            rintro e w2 ⟨rfl, hb2⟩
            have e0 := CC.out _ _ 0 _ hb2 (by simp) (by simp [go_sem]; rfl)
            have e1 := CC.out _ _ 1 _ hb2 (by simp) (by simp [go_sem]; rfl)
            have e2 := CC.out _ _ 2 _ hb2 (by simp) (by simp [go_sem]; rfl)
            have e3 := CC.out _ _ 3 _ hb2 (by simp) (by simp [go_sem]; rfl)
            have H2 := hideP ((BA.out _).trans (hb2.mono (by simp; omega)))
            have hs2 : wo.heap.size < w2.heap.size := Nat.lt_of_lt_of_le (by simp) hb2.size
            clear hb2 d0 d1 d2 d3
            go_wp2_with fail
            refine (KN.out _).mono ?_
            rintro e w3 ⟨rfl, hb3⟩
            have f0 := CC.out _ _ 0 _ hb3 hs2 e0
            have f1 := CC.out _ _ 1 _ hb3 hs2 e1
            have f3 := CC.out _ _ 3 _ hb3 hs2 e3
            have H3 := hideP (H2.out.trans (hb3.mono (by have := H2.out.size; omega)))
            have hs3 : wo.heap.size < w3.heap.size := Nat.lt_of_lt_of_le hs2 hb3.size
            clear hb3 e0 e1 e2 e3 H2 hs2 KC KN
            go_wp2_with fail
            have B3 : Hid (Below (wo.heap.size + 1) w3 w3) := Below.refl _ _
            have F3 : Hid (∀ w', Below (wo.heap.size + 1) w3 w' → w'.cell? ⟨wo.heap.size, 3, none⟩ = some (.slice a2 G c2)) := fun w' h => (h.cell (p := ⟨wo.heap.size, 3, none⟩) (Nat.lt_succ_self _)).trans f3
            have U3 : Hid (∀ w', Below (wo.heap.size + 1) w3 w' → Below w.heap.size wo w') := fun w' h => H3.out.trans (h.mono (by omega))
            clear f0 f1 f3
            go_loopw [5] (fun v wr => ∃ j : Nat, j ≤ G ∧ v = .int .i64 j ∧ Hid ((s.gs.take j).all Pl.gB = true) ∧ Hid (Below (wo.heap.size + 1) w3 wr)) (fun v _ => G - (intOf v).toNat)
            case atStart => exact ⟨0, Nat.zero_le _, rfl, rfl, B3⟩
            case round =>
              obtain ⟨j, hj, rfl, hga, hbx⟩ := hrel
              have f3 := F3.out _ hbx.out
              by_cases hlj : j < G
              · obtain ⟨g, hg, hgm⟩ := HGG.out j hlj
                obtain ⟨b2, o2, hb2, rfl, hcg⟩ := (HRG.out _ (U3.out _ hbx.out)).resolve_left (HNE.out j hlj)
                obtain ⟨t1, t2, u1, u2, hgd⟩ := hcg j g hg
                have NG := hideP (HGS.out j g hg)
                have NB := hideP (HGB.out g hgm)
                obtain ⟨g0, g1, r0, r1⟩ := hgd
                have hsz : w3.heap.size ≤ wr.heap.size := hbx.out.size
                have K1 : Hid (Calls Tryz.prog 21 #[.slice t1 g.test.length u1] wr fun e w2 => e = .returned (.bool (Pl.xt Pl.nt g.test).isSome) ∧ Below wr.heap.size wr w2) := l3CodeOk_any g.test t1 u1 (HTG.out g hgm).1 wr (r0.up (by omega))
                have K2 : Hid (∀ w', Below wr.heap.size wr w' → Calls Tryz.prog 21 #[.slice t2 g.thn.length u2] w' fun e w2 => e = .returned (.bool (Pl.xt Pl.nt g.thn).isSome) ∧ Below w'.heap.size w' w2) := fun w' hw => l3CodeOk_any g.thn t2 u2 (HTG.out g hgm).2 w' ((r1.keep (hw.mono (by omega))).up (by have := hw.size; omega))
                have CG : Hid (∀ w', Below wr.heap.size wr w' → w'.cell? ⟨wo.heap.size, 3, none⟩ = some (.slice (some ⟨b2, o2, none⟩) G c2) ∧ w'.cell? ⟨b2, o2 + j * 2 + 1, none⟩ = some (.slice t2 g.thn.length u2)) := fun w' hw => ⟨(hw.cell (p := ⟨wo.heap.size, 3, none⟩) (Nat.lt_of_lt_of_le hs3 hsz)).trans f3, (hw.cell (p := ⟨b2, o2 + j * 2 + 1, none⟩) (show b2 < wr.heap.size by omega)).trans g1⟩
                have EGB : Hid (Pl.gB g = ((Pl.xt Pl.nt g.test).isSome && (Pl.xt Pl.nt g.thn).isSome)) := rfl
                have UF : Hid (∀ w', Below wr.heap.size wr w' → Below (wo.heap.size + 1) w3 w') := fun w' h => hbx.out.trans (h.mono (by omega))
                clear HGG HGS HGB HNE HGE HRG HTG hg hgm hcg r0 r1
                generalize (Pl.xt Pl.nt g.test).isSome = x1 at *
                generalize (Pl.xt Pl.nt g.thn).isSome = x2 at *
                generalize g.test.length = l1 at *
                generalize g.thn.length = l2 at *
                cases x1
                · have HR := hideP (X.out (by rw [HN.out]; exact NB.out (by rw [EGB.out]; rfl)))
                  go_wp2_with (go_at_call 21; refine K1.out.mono ?_; rintro e w4 ⟨rfl, hb4⟩)
                  go_ret
                  exact ret_below HR.out (hbel.out.trans (U3.out _ (UF.out _ hb4)))
                cases x2
                · have HR := hideP (X.out (by rw [HN.out]; exact NB.out (by rw [EGB.out]; rfl)))
                  go_wp2_with fail
                  refine K1.out.mono ?_
                  rintro e w4 ⟨rfl, hb4⟩
                  obtain ⟨y1, y2⟩ := CG.out _ hb4
                  have H4 := hideP hb4
                  clear hb4
                  go_wp2_with (go_at_call 21; refine (K2.out _ H4.out).mono ?_; rintro e w5 ⟨rfl, hb5⟩)
                  go_ret
                  exact ret_below HR.out (hbel.out.trans (U3.out _ (UF.out _ (H4.out.trans (hb5.mono H4.out.size)))))
                · have HR := hideP (show (s.gs.take (j + 1)).all Pl.gB = true by rw [NG.out, hga.out, EGB.out]; rfl)
                  go_wp2_with fail
                  refine K1.out.mono ?_
                  rintro e w4 ⟨rfl, hb4⟩
                  obtain ⟨y1, y2⟩ := CG.out _ hb4
                  have H4 := hideP hb4
                  clear hb4
                  go_wp2_with (go_at_call 21; refine (K2.out _ H4.out).mono ?_; rintro e w5 ⟨rfl, hb5⟩)
                  go_roundw
                  case rel => exact ⟨j + 1, by omega, by go_num, HR.out, UF.out _ (H4.out.trans (hb5.mono H4.out.size))⟩
                  case measure => simp [intOf]; omega
              · obtain rfl : j = G := by omega
                have HR := hideP (show (p.take (k + 1)).all (Pl.stB Pl.nt) = true by rw [A.out, hall.out, HN.out]; have := hga.out; rw [HGE.out j rfl] at this; rw [this]; rfl)
                have HW := hideP (hbel.out.trans (U3.out _ hbx.out))
                clear HGG HGS HGB HNE HGE HRG HTG
                go_wp2_with fail
                go_roundw
                case rel => exact ⟨k + 1, by omega, by go_num, HR.out, HW.out⟩
                case measure => simp [intOf]; omega
          · skip
            have HR := hideP (X.out (by rw [HST.out]; simp))
            go_wp2_with fail
            refine (KC.out _ (BA.out _)).mono ?_
            rintro e w2 ⟨rfl, hb2⟩
            have e0 := CC.out _ _ 0 _ hb2 (by simp) (by simp [go_sem]; rfl)
            have e1 := CC.out _ _ 1 _ hb2 (by simp) (by simp [go_sem]; rfl)
            have e2 := CC.out _ _ 2 _ hb2 (by simp) (by simp [go_sem]; rfl)
            have e3 := CC.out _ _ 3 _ hb2 (by simp) (by simp [go_sem]; rfl)
            have H2 := hideP ((BA.out _).trans (hb2.mono (by simp; omega)))
            have hs2 : wo.heap.size < w2.heap.size := Nat.lt_of_lt_of_le (by simp) hb2.size
            clear hb2 d0 d1 d2 d3
            go_wp2_with fail
            refine (KN.out _).mono ?_
            rintro e w3 ⟨rfl, hb3⟩
            have f0 := CC.out _ _ 0 _ hb3 hs2 e0
            have f1 := CC.out _ _ 1 _ hb3 hs2 e1
            have H3 := hideP (H2.out.trans (hb3.mono (by have := H2.out.size; omega)))
            clear hb3
            go_wp2_with fail
            go_ret
            exact ret_below HR.out (hbel.out.trans H3.out)
        have n3 : (kk != 3) = true := by simp [k3]
        have q3 : (kk == 3) = false := by simp [k3]
        by_cases g0 : G = 0
        · subst g0
          have hge : s.gs = [] := List.length_eq_zero_iff.1 hG
          clear hG
          by_cases k1 : kk = 1
          · subst k1
            cases n0
            · skip
              have HR := hideP (X.out (by rw [HST.out]; simp []))
              go_wp2_with fail
              refine (KC.out _ (BA.out _)).mono ?_
              rintro e w2 ⟨rfl, hb2⟩
              have e0 := CC.out _ _ 0 _ hb2 (by simp) (by simp [go_sem]; rfl)
              have e1 := CC.out _ _ 1 _ hb2 (by simp) (by simp [go_sem]; rfl)
              have e2 := CC.out _ _ 2 _ hb2 (by simp) (by simp [go_sem]; rfl)
              have e3 := CC.out _ _ 3 _ hb2 (by simp) (by simp [go_sem]; rfl)
              have H2 := hideP ((BA.out _).trans (hb2.mono (by simp; omega)))
              have hs2 : wo.heap.size < w2.heap.size := Nat.lt_of_lt_of_le (by simp) hb2.size
              clear hb2 d0 d1 d2 d3
              go_wp2_with fail
              go_ret
              exact ret_below HR.out (hbel.out.trans (H2.out))
            · skip
              have HR := hideP (show (p.take (k + 1)).all (Pl.stB Pl.nt) = true by rw [A.out, hall.out, HST.out]; simp [hge])
              go_wp2_with fail
              refine (KC.out _ (BA.out _)).mono ?_
              rintro e w2 ⟨rfl, hb2⟩
              have e0 := CC.out _ _ 0 _ hb2 (by simp) (by simp [go_sem]; rfl)
              have e1 := CC.out _ _ 1 _ hb2 (by simp) (by simp [go_sem]; rfl)
              have e2 := CC.out _ _ 2 _ hb2 (by simp) (by simp [go_sem]; rfl)
              have e3 := CC.out _ _ 3 _ hb2 (by simp) (by simp [go_sem]; rfl)
              have H2 := hideP ((BA.out _).trans (hb2.mono (by simp; omega)))
              have hs2 : wo.heap.size < w2.heap.size := Nat.lt_of_lt_of_le (by simp) hb2.size
              clear hb2 d0 d1 d2 d3
              go_wp2_with fail
              go_loopw [5] (fun v wr => v = .int .i64 0 ∧ wr = w2) (fun _ _ => 0)
              case atStart => exact ⟨rfl, rfl⟩
              case round =>
                obtain ⟨rfl, rfl⟩ := hrel
                go_wp2_with fail
                go_roundw
                case rel => exact ⟨k + 1, by omega, by go_num, HR.out, hbel.out.trans H2.out⟩
                case measure => simp [intOf]; omega
          have q1 : (kk == 1) = false := by simp [k1]
          by_cases k2 : kk = 2
          · subst k2
            cases hq : Pl.nameS nm 119
            · have KN := hideP (KN.out 119)
              rw [hq] at KN
              have HR := hideP (X.out (by rw [HST.out]; simp [hq]))
              go_wp2_with fail
              refine (KC.out _ (BA.out _)).mono ?_
              rintro e w2 ⟨rfl, hb2⟩
              have e0 := CC.out _ _ 0 _ hb2 (by simp) (by simp [go_sem]; rfl)
              have e1 := CC.out _ _ 1 _ hb2 (by simp) (by simp [go_sem]; rfl)
              have e2 := CC.out _ _ 2 _ hb2 (by simp) (by simp [go_sem]; rfl)
              have e3 := CC.out _ _ 3 _ hb2 (by simp) (by simp [go_sem]; rfl)
              have H2 := hideP ((BA.out _).trans (hb2.mono (by simp; omega)))
              have hs2 : wo.heap.size < w2.heap.size := Nat.lt_of_lt_of_le (by simp) hb2.size
              clear hb2 d0 d1 d2 d3
              go_wp2_with (go_at_call 22; refine (KN.out _).mono ?_; rintro e w3 ⟨rfl, hb3⟩)
              go_ret
              exact ret_below HR.out (hbel.out.trans (H2.out.trans (hb3.mono (by have := H2.out.size; omega))))
            · have KN := hideP (KN.out 119)
              rw [hq] at KN
              have HR := hideP (show (p.take (k + 1)).all (Pl.stB Pl.nt) = true by rw [A.out, hall.out, HST.out]; simp [hge, hq])
              clear hq
              go_wp2_with fail
              refine (KC.out _ (BA.out _)).mono ?_
              rintro e w2 ⟨rfl, hb2⟩
              have e0 := CC.out _ _ 0 _ hb2 (by simp) (by simp [go_sem]; rfl)
              have e1 := CC.out _ _ 1 _ hb2 (by simp) (by simp [go_sem]; rfl)
              have e2 := CC.out _ _ 2 _ hb2 (by simp) (by simp [go_sem]; rfl)
              have e3 := CC.out _ _ 3 _ hb2 (by simp) (by simp [go_sem]; rfl)
              have H2 := hideP ((BA.out _).trans (hb2.mono (by simp; omega)))
              have hs2 : wo.heap.size < w2.heap.size := Nat.lt_of_lt_of_le (by simp) hb2.size
              clear hb2 d0 d1 d2 d3
              go_wp2_with fail
              refine (KN.out _).mono ?_
              rintro e w3 ⟨rfl, hb3⟩
              have f0 := CC.out _ _ 0 _ hb3 hs2 e0
              have f1 := CC.out _ _ 1 _ hb3 hs2 e1
              have f3 := CC.out _ _ 3 _ hb3 hs2 e3
              have H3 := hideP (H2.out.trans (hb3.mono (by have := H2.out.size; omega)))
              clear hb3 e0 e1 e2 e3
              go_wp2_with fail
              go_loopw [5] (fun v wr => v = .int .i64 0 ∧ wr = w3) (fun _ _ => 0)
              case atStart => exact ⟨rfl, rfl⟩
              case round =>
                obtain ⟨rfl, rfl⟩ := hrel
                go_wp2_with fail
                go_roundw
                case rel => exact ⟨k + 1, by omega, by go_num, HR.out, hbel.out.trans H3.out⟩
                case measure => simp [intOf]; omega
          have q2 : (kk == 2) = false := by simp [k2]
          have hb13 : kk < 1 ∨ 3 < kk := by omega
          rcases hb13 with hb13 | hb13
          · have KX := hideP k3
            clear k1 k2
            have HR := hideP (X.out (by rw [HST.out]; simp; omega))
            clear k3
            go_wp2_with fail
            refine (KC.out _ (BA.out _)).mono ?_
            rintro e w2 ⟨rfl, hb2⟩
            have e0 := CC.out _ _ 0 _ hb2 (by simp) (by simp [go_sem]; rfl)
            have e1 := CC.out _ _ 1 _ hb2 (by simp) (by simp [go_sem]; rfl)
            have e2 := CC.out _ _ 2 _ hb2 (by simp) (by simp [go_sem]; rfl)
            have e3 := CC.out _ _ 3 _ hb2 (by simp) (by simp [go_sem]; rfl)
            have H2 := hideP ((BA.out _).trans (hb2.mono (by simp; omega)))
            have hs2 : wo.heap.size < w2.heap.size := Nat.lt_of_lt_of_le (by simp) hb2.size
            clear hb2 d0 d1 d2 d3
            go_wp2_with fail
            go_ret
            exact ret_below HR.out (hbel.out.trans H2.out)
          · have KX := hideP k3
            clear k1 k2
            have HR := hideP (X.out (by rw [HST.out]; simp; omega))
            clear k3
            go_wp2_with fail
            refine (KC.out _ (BA.out _)).mono ?_
            rintro e w2 ⟨rfl, hb2⟩
            have e0 := CC.out _ _ 0 _ hb2 (by simp) (by simp [go_sem]; rfl)
            have e1 := CC.out _ _ 1 _ hb2 (by simp) (by simp [go_sem]; rfl)
            have e2 := CC.out _ _ 2 _ hb2 (by simp) (by simp [go_sem]; rfl)
            have e3 := CC.out _ _ 3 _ hb2 (by simp) (by simp [go_sem]; rfl)
            have H2 := hideP ((BA.out _).trans (hb2.mono (by simp; omega)))
            have hs2 : wo.heap.size < w2.heap.size := Nat.lt_of_lt_of_le (by simp) hb2.size
            clear hb2 d0 d1 d2 d3
            go_wp2_with fail
            go_ret
            exact ret_below HR.out (hbel.out.trans H2.out)
        · have hgp : 0 < G := by omega
          have HR := hideP (X.out (by rw [HST.out]; simp [k3, g0]))
          clear k3 g0 hG
          go_wp2_with fail
          refine (KC.out _ (BA.out _)).mono ?_
          rintro e w2 ⟨rfl, hb2⟩
          have e0 := CC.out _ _ 0 _ hb2 (by simp) (by simp [go_sem]; rfl)
          have e1 := CC.out _ _ 1 _ hb2 (by simp) (by simp [go_sem]; rfl)
          have e2 := CC.out _ _ 2 _ hb2 (by simp) (by simp [go_sem]; rfl)
          have e3 := CC.out _ _ 3 _ hb2 (by simp) (by simp [go_sem]; rfl)
          have H2 := hideP ((BA.out _).trans (hb2.mono (by simp; omega)))
          have hs2 : wo.heap.size < w2.heap.size := Nat.lt_of_lt_of_le (by simp) hb2.size
          clear hb2 d0 d1 d2 d3
          go_wp2_with fail
          go_ret
          exact ret_below HR.out (hbel.out.trans H2.out)
      · obtain rfl : k = L := by omega
        have HR := hideP (HE.out k rfl hall.out)
        clear HC HG HX HS HE HM
        go_wp2_with fail
        go_ret
        exact ret_below HR.out hbel.out
  · rw [decide_eq_false hz] at K0
    have HR := hideP (show Pl.okP p = false by unfold Pl.okP; rw [decide_eq_false hz]; rfl)
    have hlen := hsm.len
    clear hz hR hsm
    generalize Pl.okP p = r at *
    generalize p.length = L at *
    go_enter Tryz.func13, Tryz.ntmps13
    go_wp2_with (go_at_call 20; refine K0.out.mono ?_; rintro e w' ⟨rfl, hb2⟩)
    go_ret
    exact ret_below HR.out hb2
end Go.Proofs.YthhfpcdbgndioaaGreatDoor
