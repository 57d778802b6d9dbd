import Derived.Test.YtljkolffjjhgeaaGreatDoorItf
import Derived.Test.YtljkolffjjhgeaaGreatDoorLok
namespace Go.Proofs.YtljkolffjjhgeaaGreatDoor
open Go.RowKit
set_option linter.unusedVariables false
set_option maxRecDepth 100000
set_option maxHeartbeats 8000000 in
/-- impl.itemsFit -/
theorem itemsFit_any (p : List Pl.Tv) (ao : Option Addr) (cap : Nat) (hsm : Pl.SmallP p) (w : World) (hR : RdP w.heap.size w ao p) :
    Calls Tryz.prog 23 #[.slice ao p.length cap] w fun e w' => e = .returned (.bool (decide (Pl.psz p ≤ 16000))) ∧ Below w.heap.size w w' := by
  have HG : Hid (∀ k, k < p.length → ∃ s b off, p[k]? = some s ∧ s ∈ p ∧ ao = some ⟨b, off, none⟩ ∧ b < w.heap.size ∧ ∃ a1 a2 c1 c2, ∀ w', Below w.heap.size w w' → Sm w.heap.size w' b (off + k * 4) s a1 a2 c1 c2) := fun k hk => by
    rcases hR with rfl | ⟨b, off, hb, rfl, hc⟩
    · cases hk
    · obtain ⟨a1, a2, c1, c2, h⟩ := hc k p[k] (List.getElem?_eq_getElem hk)
      exact ⟨p[k], b, off, List.getElem?_eq_getElem hk, List.getElem_mem hk, rfl, hb, a1, a2, c1, c2, fun w' hw => h.keep hb hw⟩
  have HS : Hid (∀ k s, p[k]? = some s → Pl.psum p (k + 1) = Pl.psum p k + Pl.ssz s) := fun k s => Pl.psum_succ
  have HM : Hid (∀ k, Pl.psum p k ≤ Pl.psum p p.length) := Pl.psum_le p
  have HZ : Hid (∀ s ∈ p, Pl.ssz s ≤ 1048576 ∧ Pl.csz s.code ≤ 1048576 ∧ ∀ g ∈ s.gs, Pl.csz g.test ≤ 1048576 ∧ Pl.csz g.thn ≤ 1048576) := fun s hs => by
    have h1 : Pl.ssz s ≤ Pl.psz p := by
      have : Pl.ssz s ≤ (p.map Pl.ssz).sum := by
        clear HG HS HM hR hsm
        induction p with
        | nil => cases hs
        | cons x p ih =>
          rw [List.map_cons, List.sum_cons]
          rcases List.mem_cons.1 hs with rfl | h
          · omega
          · have := ih h; omega
      unfold Pl.psz
      omega
    have h2 := hsm.sz
    exact ⟨by omega, (hsm.st s hs).code.sz, fun g hg => ⟨((hsm.st s hs).gs g hg).1.sz, ((hsm.st s hs).gs g hg).2.sz⟩⟩
  have E0 := hideP (Pl.psz_eq p)
  have hl := hsm.sz
  rw [E0.out] at hl
  rw [E0.out]
  clear E0 hR hsm
  have H0 : Hid (Pl.psum p 0 = 0) := rfl
  generalize hL : p.length = L at *
  clear hL
  generalize hT : Pl.psum p L = T at *
  have HT := hideP hT
  clear hT
  go_enter Tryz.func23, Tryz.ntmps23
  go_wp2
  go_loopw [3, 4] (fun u v wr => ∃ (k : Nat) (r : Int), k ≤ L ∧ v = .int .i64 k ∧ u = .int .i64 r ∧ (-5000000 ≤ r ∧ r ≤ 16000) ∧ Hid ((0 ≤ (16000 : Int) - L - (Pl.psum p k : Nat) → r = 16000 - L - (Pl.psum p k : Nat)) ∧ ((16000 : Int) - L - (Pl.psum p k : Nat) < 0 → r < 0)) ∧ Hid (Below w.heap.size w wr)) (fun _ v _ => L - (intOf v).toNat)
  case atStart => exact ⟨0, _, Nat.zero_le _, rfl, rfl, by omega, ⟨fun _ => by rw [H0.out]; simp, fun h => by rw [H0.out] at h; simp at h; omega⟩, Below.refl _ _⟩
  case round =>
    rename World => wo
    obtain ⟨k, r, hk, rfl, rfl, ⟨hr1, hr2⟩, HV, BB⟩ := hrel
    have M0 := HM.out k
    by_cases hr0 : 0 ≤ r
    · by_cases hlt : k < L
      · obtain ⟨s, b, off, hs, hm, rfl, hb, a1, a2, c1, c2, hsm⟩ := HG.out k hlt
        obtain ⟨d0, d1, d2, d3, rc, rg⟩ := hsm _ BB.out
        obtain ⟨z1, z2, z3⟩ := HZ.out s hm
        have N := hideP (HS.out k s hs)
        have M1 := HM.out (k + 1)
        have ESZ := Pl.ssz_eq s
        have SP := hideP (@Pl.lbF_spec r s.code)
        have K : Hid (∀ m, Calls Tryz.prog 42 #[.int .i64 r, .slice a1 s.code.length c1] (wo.drewN m) fun e w' => e = .returned (.int .i64 (Pl.lbF r s.code)) ∧ w' = wo.drewN m) := fun m => leftBehind_fx r s.code a1 c1 w.heap.size (by omega) (by omega) z2 (wo.drewN m) (rc.keep (below_drewN (Below.refl _ _) m))
        have HRG : Hid (∀ w', Below w.heap.size wo w' → RdG w.heap.size w' a2 s.gs) := fun w' h => rg.keep h
        have HD3 : Hid (∀ w', Below w.heap.size wo w' → w'.cell? ⟨b, off + k * 4 + 3, none⟩ = some (.slice a2 s.gs.length c2)) := fun w' h => (h.cell (p := ⟨b, off + k * 4 + 3, none⟩) hb).trans d3
        have HGG : Hid (∀ j, j < s.gs.length → ∃ g, s.gs[j]? = some g ∧ g ∈ s.gs ∧ s.gs ≠ []) := fun j hj => ⟨s.gs[j], List.getElem?_eq_getElem hj, List.getElem_mem hj, fun e => by rw [e] at hj; cases hj⟩
        have HGS : Hid (∀ j g, s.gs[j]? = some g → Pl.gsum s.gs (j + 1) = Pl.gsum s.gs j + Pl.gsz g) := fun j g => Pl.gsum_succ
        have HGM : Hid (∀ j, Pl.gsum s.gs j ≤ Pl.gsum s.gs s.gs.length) := Pl.gsum_le s.gs
        have HG0 : Hid (Pl.gsum s.gs 0 = 0) := rfl
        have HZ3 := hideP z3
        have BR : Hid (∀ m, Below w.heap.size wo (wo.drewN m)) := fun m => below_drewN (Below.refl _ _) m
        rw [N.out] at M1
        clear rc rg HG HS HM HZ hs hm hsm z3 d0 d1
        generalize hcs : Pl.csz s.code = cs at *
        generalize s.code.length = cl at *
        generalize hgl : s.gs.length = G at *
        clear hcs hgl
        generalize hgt : Pl.gsum s.gs G = GT at *
        have HGT := hideP hgt
        clear hgt
        generalize hlb : Pl.lbF r s.code = r1 at *
        clear hlb
        obtain ⟨s1, s2, s3, s4⟩ := SP.out
        obtain ⟨v1, v2⟩ := HV.out
        have v3 : r = (16000 : Int) - L - (Pl.psum p k : Nat) := by
          by_cases hp : 0 ≤ (16000 : Int) - L - (Pl.psum p k : Nat)
          · exact v1 hp
          · have := v2 (by omega); omega
        have HV1 : Hid ((0 ≤ (16000 : Int) - L - (Pl.psum p k : Nat) - cs - G - (0 : Nat) → r1 - G = (16000 : Int) - L - (Pl.psum p k : Nat) - cs - G - (0 : Nat)) ∧ ((16000 : Int) - L - (Pl.psum p k : Nat) - cs - G - (0 : Nat) < 0 → r1 - G < 0)) := by
          refine ⟨fun h => ?_, fun h => ?_⟩
          · have := s2 (by omega); omega
          · by_cases hp : 0 ≤ r - (cs : Int)
            · have := s2 hp; omega
            · have := s3 (by omega); omega
        have hr3 : -5000000 ≤ r1 - G ∧ r1 - G ≤ 16000 := by omega
        clear v1 v2 v3 s1 s2 s3 s4 HV SP
        have hdm : ∀ m, (wo.drewN m).cell? ⟨b, off + k * 4 + 2, none⟩ = some (.slice a1 cl c1) := fun m => d2
        go_wp2
        go_quiet ((go_at_call 42; exact Calls.quiet_of_same (K.out _)))
        go_wp2
        go_loopw [3, 5] (fun u v wr => ∃ (j : Nat) (q : Int), j ≤ G ∧ v = .int .i64 j ∧ u = .int .i64 q ∧ (-5000000 ≤ q ∧ q ≤ 16000) ∧ Hid ((0 ≤ (16000 : Int) - L - (Pl.psum p k : Nat) - cs - G - (Pl.gsum s.gs j : Nat) → q = (16000 : Int) - L - (Pl.psum p k : Nat) - cs - G - (Pl.gsum s.gs j : Nat)) ∧ ((16000 : Int) - L - (Pl.psum p k : Nat) - cs - G - (Pl.gsum s.gs j : Nat) < 0 → q < 0)) ∧ Hid (Below w.heap.size wo wr)) (fun _ v _ => G - (intOf v).toNat)
        case atStart => exact ⟨0, _, Nat.zero_le _, rfl, rfl, hr3, by rw [HG0.out]; exact HV1, BR.out _⟩
        case round =>
          obtain ⟨j, q, hj, rfl, rfl, ⟨hq1, hq2⟩, HW, BX⟩ := hrel
          have e3 := HD3.out _ BX.out
          have MG := HGM.out j
          by_cases hlj : j < G
          · by_cases hq0 : 0 ≤ q
            · obtain ⟨g, hg, hgm, hgne⟩ := HGG.out j hlj
              obtain ⟨b2, o2, hb2, rfl, hcg⟩ := (HRG.out _ BX.out).resolve_left hgne
              obtain ⟨t1, t2, u1, u2, hgd⟩ := hcg j g hg
              have NG := hideP (HGS.out j g hg)
              obtain ⟨g0, g1, r0, rr1⟩ := hgd
              obtain ⟨y1, y2⟩ := HZ3.out g hgm
              have P1 := @Pl.lbF_spec q g.test
              have P2 := @Pl.lbF_spec (Pl.lbF q g.test) g.thn
              have EG : Pl.gsz g = Pl.csz g.test + Pl.csz g.thn := rfl
              have K1 : Hid (Calls Tryz.prog 42 #[.int .i64 q, .slice t1 g.test.length u1] wr fun e w' => e = .returned (.int .i64 (Pl.lbF q g.test)) ∧ w' = wr) := leftBehind_fx q g.test t1 u1 w.heap.size (by omega) (by omega) y1 wr r0
              have K2 : Hid (Calls Tryz.prog 42 #[.int .i64 (Pl.lbF q g.test), .slice t2 g.thn.length u2] wr fun e w' => e = .returned (.int .i64 (Pl.lbF (Pl.lbF q g.test) g.thn)) ∧ w' = wr) := leftBehind_fx _ g.thn t2 u2 w.heap.size (by omega) (by omega) y2 wr rr1
              clear HRG HD3 HGG HGS HGM hg hgm hgne hcg r0 rr1 K HZ3 BR
              generalize hl1 : Pl.lbF q g.test = q1 at *
              clear hl1
              generalize hl2 : Pl.lbF q1 g.thn = q2 at *
              clear hl2
              rw [EG] at NG
              generalize Pl.csz g.test = x1 at *
              generalize Pl.csz g.thn = x2 at *
              generalize g.test.length = l1 at *
              generalize g.thn.length = l2 at *
              obtain ⟨w1, w2⟩ := HW.out
              obtain ⟨p1, p2, p3, p4⟩ := P1
              obtain ⟨p5, p6, p7, p8⟩ := P2
              have w3 : q = (16000 : Int) - L - (Pl.psum p k : Nat) - cs - G - (Pl.gsum s.gs j : Nat) := by
                by_cases hp : 0 ≤ (16000 : Int) - L - (Pl.psum p k : Nat) - cs - G - (Pl.gsum s.gs j : Nat)
                · exact w1 hp
                · have := w2 (by omega); omega
              have HW2 : Hid ((0 ≤ (16000 : Int) - L - (Pl.psum p k : Nat) - cs - G - (Pl.gsum s.gs j + (x1 + x2) : Nat) → q2 = (16000 : Int) - L - (Pl.psum p k : Nat) - cs - G - (Pl.gsum s.gs j + (x1 + x2) : Nat)) ∧ ((16000 : Int) - L - (Pl.psum p k : Nat) - cs - G - (Pl.gsum s.gs j + (x1 + x2) : Nat) < 0 → q2 < 0)) := by
                refine ⟨fun h => ?_, fun h => ?_⟩
                · have h1 := p2 (by omega)
                  have h2 := p6 (by omega)
                  omega
                · by_cases hp : 0 ≤ q - (x1 : Int)
                  · have h1 := p2 hp
                    have h2 := p7 (by omega)
                    exact h2
                  · have h1 := p3 (by omega)
                    omega
              have hq3 : -5000000 ≤ q2 ∧ q2 ≤ 16000 := by omega
              clear w1 w2 w3 p1 p2 p3 p4 p5 p6 p7 p8 HW
              go_wp2_with fail
              refine K1.out.mono ?_
              rintro e w' ⟨rfl, rfl⟩
              go_wp2_with fail
              refine K2.out.mono ?_
              rintro e w' ⟨rfl, rfl⟩
              go_wp2_with fail
              go_roundw
              case rel => exact ⟨j + 1, _, by omega, by go_num, rfl, hq3, by rw [NG.out]; exact HW2, BX⟩
              case measure => simp [intOf]; omega
            · have HB2 : Hid (Below w.heap.size w wr) := BB.out.trans BX.out
              have HV2 : Hid ((0 ≤ (16000 : Int) - L - (Pl.psum p (k + 1) : Nat) → q = 16000 - L - (Pl.psum p (k + 1) : Nat)) ∧ ((16000 : Int) - L - (Pl.psum p (k + 1) : Nat) < 0 → q < 0)) := by
                rw [N.out, ESZ]
                obtain ⟨w1, w2⟩ := HW.out
                refine ⟨fun h => ?_, fun h => by omega⟩
                have := w1 (by omega)
                omega
              have hqd : decide (0 ≤ q) = false := decide_eq_false hq0
              clear HRG HD3 HGG HGS HGM K HZ3 BR
              go_wp2_with fail
              go_roundw
              case rel => exact ⟨k + 1, _, by omega, by go_num, rfl, ⟨hq1, hq2⟩, HV2, HB2⟩
              case measure => simp [intOf]; omega
          · obtain rfl : j = G := by omega
            have HB2 : Hid (Below w.heap.size w wr) := BB.out.trans BX.out
            have HV2 : Hid ((0 ≤ (16000 : Int) - L - (Pl.psum p (k + 1) : Nat) → q = 16000 - L - (Pl.psum p (k + 1) : Nat)) ∧ ((16000 : Int) - L - (Pl.psum p (k + 1) : Nat) < 0 → q < 0)) := by
              rw [N.out, ESZ]
              obtain ⟨w1, w2⟩ := HW.out
              rw [HGT.out] at w1 w2
              refine ⟨fun h => ?_, fun h => w2 (by omega)⟩
              have := w1 (by omega)
              omega
            clear HRG HD3 HGG HGS HGM K HZ3 BR
            go_wp2_with fail
            go_roundw
            case rel => exact ⟨k + 1, _, by omega, by go_num, rfl, ⟨hq1, hq2⟩, HV2, HB2⟩
            case measure => simp [intOf]; omega
      · obtain rfl : k = L := by omega
        obtain ⟨v1, v2⟩ := HV.out
        rw [HT.out] at v1 v2
        have HR : Hid (decide (k + T ≤ 16000) = true) := by
          show _ = _
          rw [decide_eq_true_eq]
          by_cases hp : 0 ≤ (16000 : Int) - k - (T : Nat)
          · omega
          · have := v2 (by omega); omega
        clear HG HS HM HZ v1 v2 HV
        go_wp2_with fail
        go_ret
        exact ret_below HR.out BB.out
    · obtain ⟨v1, v2⟩ := HV.out
      have HR : Hid (decide (L + T ≤ 16000) = false) := by
        show _ = _
        rw [decide_eq_false_iff_not]
        intro h
        have := v1 (by omega)
        omega
      have hrd : decide (0 ≤ r) = false := decide_eq_false hr0
      clear HG HS HM HZ v1 v2 HV
      by_cases hlt : k < L
      · go_wp2_with fail
        go_ret
        exact ret_below HR.out BB.out
      · go_wp2_with fail
        go_ret
        exact ret_below HR.out BB.out
end Go.Proofs.YtljkolffjjhgeaaGreatDoor
