import Derived.Test.YtljkolffjjhgeaaGreatDoorCok
namespace Go.Proofs.YtljkolffjjhgeaaGreatDoor
open Go.RowKit
set_option linter.unusedVariables false
set_option maxRecDepth 100000
/-- spec.l3Size -/
theorem l3Size_rd (c : List Pl.Sv) (ao : Option Addr) (cap B : Nat) (hl : Pl.csz c ≤ 4611686018427387904) (w : World) (hR : RdS B w ao c) :
    Calls Tryz.prog 32 #[.slice ao c.length cap] w fun e w' => e = .returned (.int .i64 (Pl.csz c : Nat)) ∧ w' = w := by
  rcases hR with rfl | ⟨b, off, hb, rfl, hc⟩
  · go_enter Tryz.func32, Tryz.ntmps32
    go_wp2
    go_loop [3, 4] (fun u v => v = .int .i64 0 ∧ u = .int .i64 0) (fun u v => 0)
    case atStart => exact ⟨rfl, rfl⟩
    case round =>
      obtain ⟨rfl, rfl⟩ := hrel
      go_wp2
      go_ret
      exact ⟨rfl, rfl⟩
  · exact l3Size_any c b off cap hl w (fun i s hi => by
      obtain ⟨an, cn, h⟩ := hc i s hi
      exact ⟨an, cn, h.n⟩)
namespace Pl
def psum (p : List Tv) (i : Nat) : Nat := ((p.take i).map ssz).sum
theorem psum_succ {p : List Tv} {i : Nat} {s : Tv} (h : p[i]? = some s) : psum p (i + 1) = psum p i + ssz s := by
  unfold psum
  rw [List.take_add_one, h]
  simp
theorem psum_le (p : List Tv) (i : Nat) : psum p i ≤ psum p p.length := by
  unfold psum
  rw [List.take_length]
  have e : p = p.take i ++ p.drop i := (List.take_append_drop i p).symm
  have := congrArg (fun l => (l.map ssz).sum) e
  simp only [List.map_append, List.sum_append] at this
  omega
theorem psz_eq (p : List Tv) : psz p = p.length + psum p p.length := by unfold psz psum; rw [List.take_length]
def gsum (p : List Gv) (i : Nat) : Nat := ((p.take i).map gsz).sum
theorem gsum_succ {p : List Gv} {i : Nat} {s : Gv} (h : p[i]? = some s) : gsum p (i + 1) = gsum p i + gsz s := by
  unfold gsum
  rw [List.take_add_one, h]
  simp
theorem gsum_le (p : List Gv) (i : Nat) : gsum p i ≤ gsum p p.length := by
  unfold gsum
  rw [List.take_length]
  have e : p = p.take i ++ p.drop i := (List.take_append_drop i p).symm
  have := congrArg (fun l => (l.map gsz).sum) e
  simp only [List.map_append, List.sum_append] at this
  omega
theorem ssz_eq (s : Tv) : ssz s = csz s.code + s.gs.length + gsum s.gs s.gs.length := by unfold ssz gsum; rw [List.take_length]
end Pl
set_option maxHeartbeats 4000000 in
/-- spec.l3SizeOk -/
theorem l3SizeOk_any (p : List Pl.Tv) (ao : Option Addr) (cap : Nat) (hl : Pl.psz p ≤ 1048576) (w : World) (hR : RdP w.heap.size w ao p) :
    Calls Tryz.prog 17 #[.slice ao p.length cap] w fun e w' => e = .returned (.bool (decide (Pl.psz p ≤ 16000))) ∧ Below w.heap.size w w' := by
  rcases hR with rfl | ⟨b, off, hb, rfl, hc⟩
  · go_enter Tryz.func17, Tryz.ntmps17
    go_wp2
    go_loop [3, 4] (fun u v => v = .int .i64 0 ∧ u = .int .i64 0) (fun u v => 0)
    case atStart => exact ⟨rfl, rfl⟩
    case round =>
      obtain ⟨rfl, rfl⟩ := hrel
      go_wp2
      go_ret
      exact ⟨rfl, Below.refl _ _⟩
  have HS : Hid (∀ k s, p[k]? = some s → Pl.psum p (k + 1) = Pl.psum p k + Pl.ssz s) := fun k s => Pl.psum_succ
  have HM : Hid (∀ k, Pl.psum p k ≤ Pl.psum p p.length) := Pl.psum_le p
  have HG : Hid (∀ k, k < p.length → ∃ s, p[k]? = some s) := fun k hk => ⟨p[k], List.getElem?_eq_getElem hk⟩
  have HC := hideP hc
  clear hc
  have E0 := hideP (Pl.psz_eq p)
  rw [E0.out] at hl
  rw [E0.out]
  clear E0
  generalize hL : p.length = L at *
  have hL2 : L ≤ 1048576 := by omega
  go_enter Tryz.func17, Tryz.ntmps17
  go_wp2
  go_loopw [3, 4] (fun u v wr => ∃ k : Nat, k ≤ L ∧ v = .int .i64 k ∧ u = .int .i64 (L + Pl.psum p k : Nat) ∧ Hid (Below w.heap.size w wr)) (fun _ v _ => L - (intOf v).toNat)
  case atStart => exact ⟨0, Nat.zero_le _, rfl, by simp [Pl.psum], Below.refl _ _⟩
  case round =>
    rename World => wo
    obtain ⟨k, hk, rfl, rfl, hbel⟩ := hrel
    by_cases hlt : k < L
    · obtain ⟨s, hs⟩ := HG.out k hlt
      obtain ⟨a1, a2, c1, c2, hsm⟩ := HC.out k s hs
      have N := hideP (HS.out k s hs)
      have M1 := HM.out (k + 1)
      rw [N.out, Pl.ssz_eq] at M1
      have hsm := hsm.keep hb hbel.out
      obtain ⟨d0, d1, d2, d3, rc, rg⟩ := hsm
      clear HS HM HG HC hs d0 d1
      have ESZ := hideP (Pl.ssz_eq s)
      have K : Hid (∀ m, Calls Tryz.prog 32 #[.slice a1 s.code.length c1] (wo.drewN m) fun e w' => e = .returned (.int .i64 (Pl.csz s.code : Nat)) ∧ w' = wo.drewN m) := fun m => l3Size_rd s.code a1 c1 w.heap.size (by omega) (wo.drewN m) (rc.keep (below_drewN (Below.refl _ _) m))
      have HRG : Hid (∀ w', Below w.heap.size wo w' → RdG w.heap.size w' a2 s.gs) := fun w' h => rg.keep h
      have HD3 : Hid (∀ w', Below w.heap.size wo w' → w'.cell? ⟨b, off + k * 4 + 3, none⟩ = some (.slice a2 s.gs.length c2)) := fun w' h => (h.cell (p := ⟨b, off + k * 4 + 3, none⟩) hb).trans d3
      have HGG : Hid (∀ j, j < s.gs.length → ∃ g, s.gs[j]? = some g) := fun j hj => ⟨s.gs[j], List.getElem?_eq_getElem hj⟩
      have HGS : Hid (∀ j g, s.gs[j]? = some g → Pl.gsum s.gs (j + 1) = Pl.gsum s.gs j + Pl.gsz g) := fun j g => Pl.gsum_succ
      have HGM : Hid (∀ j, Pl.gsum s.gs j ≤ Pl.gsum s.gs s.gs.length) := Pl.gsum_le s.gs
      have HNE : Hid (∀ j, j < s.gs.length → s.gs ≠ []) := fun j hj e => by rw [e] at hj; cases hj
      have BR : Hid (∀ m, Below w.heap.size wo (wo.drewN m)) := fun m => below_drewN (Below.refl _ _) m
      clear rc rg
      generalize Pl.csz s.code = cs at *
      generalize s.code.length = cl at *
      generalize hgl : s.gs.length = G at *
      generalize hgt : Pl.gsum s.gs G = T at *
      generalize Pl.psum p k = y at *
      have HGT := hideP hgt
      clear hgt hgl
      go_wp2
      go_quiet ((go_at_call 32; exact Calls.quiet_of_same (K.out _)))
      go_wp2
      go_loopw [3, 5] (fun u v wr => ∃ j : Nat, j ≤ G ∧ v = .int .i64 j ∧ u = .int .i64 (L + y + cs + G + Pl.gsum s.gs j : Nat) ∧ Hid (Below w.heap.size wo wr)) (fun _ v _ => G - (intOf v).toNat)
      case atStart => exact ⟨0, Nat.zero_le _, rfl, by simp [Pl.gsum]; omega, BR.out _⟩
      case round =>
        obtain ⟨j, hj, rfl, rfl, hbx⟩ := hrel
        have e3 := HD3.out _ hbx.out
        by_cases hlj : j < G
        · obtain ⟨g, hg⟩ := HGG.out j hlj
          obtain ⟨b2, o2, hb2, rfl, hcg⟩ := (HRG.out _ hbx.out).resolve_left (HNE.out j hlj)
          obtain ⟨t1, t2, u1, u2, hgd⟩ := hcg j g hg
          have NG := hideP (HGS.out j g hg)
          have MG := HGM.out (j + 1)
          rw [NG.out] at MG
          obtain ⟨g0, g1, r0, r1⟩ := hgd
          have EG : Pl.gsz g = Pl.csz g.test + Pl.csz g.thn := rfl
          rw [EG] at NG MG
          have K1 : Hid (∀ m, Calls Tryz.prog 32 #[.slice t1 g.test.length u1] (wr.drewN m) fun e w' => e = .returned (.int .i64 (Pl.csz g.test : Nat)) ∧ w' = wr.drewN m) := fun m => l3Size_rd g.test t1 u1 w.heap.size (by omega) (wr.drewN m) (r0.keep (below_drewN (Below.refl _ _) m))
          have K2 : Hid (∀ m, Calls Tryz.prog 32 #[.slice t2 g.thn.length u2] (wr.drewN m) fun e w' => e = .returned (.int .i64 (Pl.csz g.thn : Nat)) ∧ w' = wr.drewN m) := fun m => l3Size_rd g.thn t2 u2 w.heap.size (by omega) (wr.drewN m) (r1.keep (below_drewN (Below.refl _ _) m))
          have BX : Hid (∀ m, Below w.heap.size wo (wr.drewN m)) := fun m => below_drewN hbx.out m
          clear HRG HD3 HGG HGS HGM HNE BR hg hcg r0 r1 EG K
          generalize Pl.csz g.test = x1 at *
          generalize Pl.csz g.thn = x2 at *
          generalize g.test.length = l1 at *
          generalize g.thn.length = l2 at *
          generalize Pl.gsum s.gs j = z at *
          go_wp2
          go_quiet (first | (go_at_call 32; with_reducible exact Calls.quiet_of_same (K1.out _)) | (go_at_call 32; with_reducible exact Calls.quiet_of_same (K2.out _)))
          go_wp2
          go_roundw
          case rel => exact ⟨j + 1, by omega, by go_num, by rw [NG.out]; go_num, BX.out _⟩
          case measure => simp [intOf]; omega
        · obtain rfl : j = G := by omega
          have HF : Hid (Below w.heap.size w wr) := hbel.out.trans hbx.out
          clear HRG HD3 HGG HGS HGM HNE BR K
          have EY : Hid (L + Pl.psum p (k + 1) = L + y + cs + j + Pl.gsum s.gs j) := by show _ = _; rw [N.out, ESZ.out, HGT.out]; omega
          go_wp2
          go_roundw
          case rel => exact ⟨k + 1, by omega, by go_num, by rw [EY.out], HF.out⟩
          case measure => simp [intOf]; omega
    · obtain rfl : k = L := by omega
      clear HS HM HG HC
      go_wp2
      go_ret
      exact ⟨ret_bool (by rw [Bool.eq_iff_iff]; simp only [decide_eq_true_eq]; omega), hbel.out⟩
end Go.Proofs.YtljkolffjjhgeaaGreatDoor
