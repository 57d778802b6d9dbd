import Derived.Test.YthhfpcdbgndioaaGreatDoorTxt
import Derived.Test.YthhfpcdbgndioaaGreatDoorPlc
namespace Go.Proofs.YthhfpcdbgndioaaGreatDoor
open Go.RowKit
set_option linter.unusedVariables false
set_option maxRecDepth 100000
namespace Pl
/-- code that is not too great -/
structure Small (c : List Sv) : Prop where
  sz : csz c ≤ 1048576
  nm : ∀ s ∈ c, s.nm.length ≤ 1048576 ∧ s.fn.nm.length ≤ 1048576
theorem Small.len {c : List Sv} (h : Small c) : c.length ≤ 1048576 := by have := csz_eq c; have := h.sz; omega
theorem Small.nums {c : List Sv} (h : Small c) {s : Sv} (hs : s ∈ c) : s.nums.length ≤ 1048576 := by
  have h2 := h.sz
  unfold csz at h2
  have : s.nums.length ≤ (c.map fun s => s.nums.length).sum := by
    clear h h2
    induction c with
    | nil => cases hs
    | cons x c ih =>
      rw [List.map_cons, List.sum_cons]
      rcases List.mem_cons.1 hs with rfl | h
      · omega
      · have := ih h; omega
  omega
theorem xt_nil (nt : Int → List UInt8) : xt nt [] = none := rfl
theorem xt_no {nt : Int → List UInt8} {c : List Sv} (h : sta c c.length ≠ 0) : (xt nt c).isSome = false := by
  unfold xt
  unfold sta at h
  cases e : nd c c.length with
  | none => rfl
  | some r =>
    obtain ⟨t, m⟩ := r
    rw [e] at h
    cases m with
    | zero => exact absurd rfl h
    | succ m => rfl
theorem sta_zero_iff {c : List Sv} {n : Nat} (h : sta c n = 0) : ∃ t, nd c n = some (t, 0) := by
  unfold sta at h
  cases e : nd c n with
  | none => rw [e] at h; exact absurd h (by decide)
  | some r =>
    obtain ⟨t, m⟩ := r
    rw [e] at h
    simp only [] at h
    obtain rfl : m = 0 := by omega
    exact ⟨t, rfl⟩
theorem xt_bad {nt : Int → List UInt8} {c : List Sv} {s : Sv} (hs : s ∈ c) (h : sok s = false) : (xt nt c).isSome = false := by
  have : c.all sok ≠ true := by
    intro e
    have := List.all_eq_true.1 e s hs
    rw [h] at this; cases this
  unfold xt
  split
  · rw [if_neg (fun e => this e.1)]; rfl
  · rfl
theorem xt_ok {nt : Int → List UInt8} {c : List Sv} {t : Nd Sv} (h : nd c c.length = some (t, 0)) (ha : ∀ s ∈ c, sok s = true) : (xt nt c).isSome = decide (nest t ≤ 40) := by
  unfold xt
  rw [h]
  simp only [List.all_eq_true.2 ha, true_and]
  split
  · rename_i e; rw [decide_eq_true e]; rfl
  · rename_i e; rw [decide_eq_false e]; rfl
theorem xt_get {nt : Int → List UInt8} {c : List Sv} {x : List UInt8} (h : xt nt c = some x) : ∃ t, nd c c.length = some (t, 0) ∧ (∀ s ∈ c, sok s = true) ∧ x = txt (ta nt) tf t := by
  unfold xt at h
  split at h
  · rename_i t e
    split at h
    · rename_i e2
      exact ⟨t, e, List.all_eq_true.1 e2.1, (Option.some.inj h).symm⟩
    · cases h
  · cases h
theorem all_take {c : List Sv} {k : Nat} (h : (c.take k).all sok = true) (hk : k = c.length) : ∀ s ∈ c, sok s = true := by
  rw [hk, List.take_length] at h
  exact List.all_eq_true.1 h
theorem all_succ {c : List Sv} {k : Nat} {s : Sv} (h : c[k]? = some s) : (c.take (k + 1)).all sok = ((c.take k).all sok && sok s) := by
  rw [List.take_add_one, h, List.all_append]
  simp
end Pl
set_option maxHeartbeats 4000000 in
/-- spec.l3CodeOk -/
theorem l3CodeOk_any (c : List Pl.Sv) (ao : Option Addr) (cap : Nat) (hsm : Pl.Small c) (w : World) (hR : RdS w.heap.size w ao c) :
    Calls Tryz.prog 21 #[.slice ao c.length cap] w fun e w' => e = .returned (.bool (Pl.xt Pl.nt c).isSome) ∧ Below w.heap.size w w' := by
  have hlen := hsm.len
  rcases hR with rfl | ⟨b, off, hb, rfl, hc⟩
  · go_enter Tryz.func21, Tryz.ntmps21
    go_wp2
    go_ret
    exact ⟨rfl, Below.refl _ _⟩
  by_cases h0 : c = []
  · subst h0
    go_enter Tryz.func21, Tryz.ntmps21
    go_wp2
    go_ret
    exact ⟨rfl, Below.refl _ _⟩
  have hpos : 0 < c.length := List.length_pos_iff.2 h0
  have K : Hid (Calls Tryz.prog 37 #[.slice (some ⟨b, off, none⟩) c.length cap, .int .i64 ((c.length : Int) - 1)] w fun e w' => e = .returned (.int .i64 (Pl.sta c c.length)) ∧ w' = w) := l3Start_any c b off cap hlen w (fun i s hi => (hc i s hi).choose_spec.choose_spec.k) c.length (Nat.le_refl _)
  by_cases hst : Pl.sta c c.length = 0
  · obtain ⟨t, ht⟩ := Pl.sta_zero_iff hst
    rw [hst] at K
    have HC : Hid (∀ i s, c[i]? = some s → ∃ an cn, Stp w.heap.size w b (off + i * 7) s an cn) := hc
    have HG : Hid (∀ i, i < c.length → ∃ s, c[i]? = some s ∧ s ∈ c) := fun i hi => ⟨c[i], List.getElem?_eq_getElem hi, List.getElem_mem hi⟩
    have HX : Hid (∀ s ∈ c, Pl.sok s = false → (Pl.xt Pl.nt c).isSome = false) := fun s hs h => Pl.xt_bad hs h
    have HA : Hid (∀ k s, c[k]? = some s → (c.take (k + 1)).all Pl.sok = ((c.take k).all Pl.sok && Pl.sok s)) := fun k s => Pl.all_succ
    have HE : Hid (∀ k, k = c.length → (c.take k).all Pl.sok = true → ∀ s ∈ c, Pl.sok s = true) := fun k hk h => Pl.all_take h hk
    have HY : Hid ((∀ s ∈ c, Pl.sok s = true) → (Pl.xt Pl.nt c).isSome = decide (Pl.nest t ≤ 40)) := Pl.xt_ok ht
    have HK : Hid (∀ s ∈ c, ∀ (an : Option Addr) (cn : Nat) (w' : World), RdI w'.heap.size w' an s.nums → Calls Tryz.prog 38 #[.agg #[.int .i64 s.k, .slice an s.nums.length cn, .string (Pl.ba s.nm), .int .i64 s.fn.k, .int .i64 s.fn.a, .int .i64 s.fn.b, .string (Pl.ba s.fn.nm)]] w' fun e w2 => e = .returned (.bool (Pl.sok s)) ∧ Below w'.heap.size w' w2) := fun s hs an cn w' hr => by
      rw [Pl.sok_eq]
      exact l3StepOk_any s an cn w' hr (hsm.nums hs) (hsm.nm s hs).1 (hsm.nm s hs).2
    have HT : Hid ((∀ s ∈ c, Pl.sok s = true) → ∀ w', Below w.heap.size w w' → Calls Tryz.prog 23 #[.slice (some ⟨b, off, none⟩) c.length cap, .int .i64 ((c.length : Int) - 1)] w' fun e w2 => e = .returned (.tuple #[.string (Pl.ba (Pl.txt (Pl.ta Pl.nt) Pl.tf t)), .int .i64 (Pl.nest t : Nat)]) ∧ Below w'.heap.size w' w2) := fun hok w' hw => l3Text_any c w.heap.size b off cap hsm.sz hok hb c.length t 0 ht (Nat.le_refl _) w' hw.size (fun i s hi => by
      obtain ⟨an, cn, h⟩ := hc i s hi
      exact ⟨an, cn, h.keep hb hw⟩)
    generalize Pl.ba (Pl.txt (Pl.ta Pl.nt) Pl.tf t) = tx at *
    generalize Pl.nest t = q at *
    clear hc ht hst h0 hsm
    generalize (Pl.xt Pl.nt c).isSome = r at *
    generalize hL : c.length = L at *
    go_enter Tryz.func21, Tryz.ntmps21
    go_wp2_with (go_at_call 37; refine K.out.mono ?_; rintro e w' ⟨rfl, rfl⟩)
    go_loopw [4] (fun v wr => ∃ k : Nat, k ≤ L ∧ v = .int .i64 k ∧ Hid ((c.take k).all Pl.sok = true) ∧ Hid (Below w'.heap.size w' wr)) (fun v _ => L - (intOf v).toNat)
    case atStart => exact ⟨0, Nat.zero_le _, rfl, rfl, Below.refl _ _⟩
    case round =>
      obtain ⟨k, hk, rfl, hall, hbel⟩ := hrel
      by_cases hlt : k < L
      · obtain ⟨s, hs, hm⟩ := HG.out k hlt
        obtain ⟨an, cn, hst⟩ := HC.out k s hs
        obtain ⟨c0, c1, c2, c3, c4, c5, c6, crd⟩ := hst.keep hb hbel.out
        have A := hideP (HA.out k s hs)
        have X := hideP (HX.out s hm)
        have KK := hideP (HK.out s hm an cn wr (crd.up hbel.out.size))
        clear HC HG HX HA HE HY HK HT hs hm hst crd
        generalize Pl.ba s.nm = nm at *
        generalize Pl.ba s.fn.nm = fnm at *
        generalize s.fn.k = fk at *
        generalize s.fn.a = fa at *
        generalize s.fn.b = fb at *
        generalize s.k = kk at *
        generalize s.nums.length = sn at *
        cases hq : Pl.sok s
        · rw [hq] at KK X
          have HR := hideP (X.out rfl)
          clear hq
          go_wp2_with (go_at_call 38; refine KK.out.mono ?_; rintro e w2 ⟨rfl, hb2⟩)
          go_ret
          exact ret_below HR.out (hbel.out.trans (hb2.mono hbel.out.size))
        · rw [hq] at KK A
          have HR := hideP (show (c.take (k + 1)).all Pl.sok = true by rw [A.out, hall.out]; rfl)
          clear hq
          go_wp2_with (go_at_call 38; refine KK.out.mono ?_; rintro e w2 ⟨rfl, hb2⟩)
          go_roundw
          case rel => exact ⟨k + 1, by omega, by go_num, HR.out, hbel.out.trans (hb2.mono hbel.out.size)⟩
          case measure => simp [intOf]; omega
      · obtain rfl : k = L := by omega
        have HO := hideP (HE.out k rfl hall.out)
        have KK := hideP (HT.out HO.out wr hbel.out)
        have HR := hideP (HY.out HO.out)
        clear HC HG HX HA HE HY HK HT
        go_wp2_with (go_at_call 23; refine KK.out.mono ?_; rintro e w2 ⟨rfl, hb2⟩)
        go_ret
        exact ret_below (HR.out.trans (by rw [Bool.eq_iff_iff]; simp only [decide_eq_true_eq]; omega)) (hbel.out.trans (hb2.mono hbel.out.size))
  · have HR := hideP (Pl.xt_no (nt := Pl.nt) hst)
    have hne : (Pl.sta c c.length != 0) = true := by simp [hst]
    clear hc hst h0 hsm
    generalize (Pl.xt Pl.nt c).isSome = r at *
    generalize Pl.sta c c.length = z at *
    generalize c.length = L at *
    go_enter Tryz.func21, Tryz.ntmps21
    go_wp2_with (go_at_call 37; refine K.out.mono ?_; rintro e w' ⟨rfl, rfl⟩)
    go_ret
    exact ret_below HR.out (Below.refl _ _)
/-- spec.l3Whole -/
theorem l3Whole_any (c : List Pl.Sv) (ao : Option Addr) (cap : Nat) (hsm : Pl.Small c) (x : List UInt8) (hx : Pl.xt Pl.nt c = some x) (w : World) (hR : RdS w.heap.size w ao c) :
    Calls Tryz.prog 14 #[.slice ao c.length cap] w fun e w' => e = .returned (.string (Pl.ba x)) ∧ Below w.heap.size w w' := by
  have hlen := hsm.len
  rcases hR with rfl | ⟨b, off, hb, rfl, hc⟩
  · cases hx
  obtain ⟨t, ht, hok, rfl⟩ := Pl.xt_get hx
  have K := hideP (l3Text_any c w.heap.size b off cap hsm.sz hok hb c.length t 0 ht (Nat.le_refl _) w (Nat.le_refl _) hc)
  clear hc ht hx hsm hok
  generalize Pl.ba (Pl.txt (Pl.ta Pl.nt) Pl.tf t) = tx at *
  generalize Pl.nest t = q at *
  generalize c.length = L at *
  go_enter Tryz.func14, Tryz.ntmps14
  go_wp2_with (go_at_call 23; refine K.out.mono ?_; rintro e w' ⟨rfl, hb2⟩)
  go_ret
  exact ⟨rfl, hb2⟩
/-- spec.l3Size -/
theorem l3Size_rd (c : List Pl.Sv) (ao : Option Addr) (cap B : Nat) (hl : Pl.csz c ≤ 4611686018427387904) (w : World) (hR : RdS B w ao c) :
    Calls Tryz.prog 36 #[.slice ao c.length cap] w fun e w' => e = .returned (.int .i64 (Pl.csz c : Nat)) ∧ w' = w := by
  rcases hR with rfl | ⟨b, off, hb, rfl, hc⟩
  · go_enter Tryz.func36, Tryz.ntmps36
    go_wp2
    go_loop [3, 4] (fun u v => v = .int .i64 0 ∧ u = .int .i64 0) (fun u v => 0)
    case atStart => exact ⟨rfl, rfl⟩
    case round =>
      obtain ⟨rfl, rfl⟩ := hrel
      go_wp2
      go_ret
      exact ⟨rfl, rfl⟩
  · exact l3Size_any c b off cap hl w (fun i s hi => by
      obtain ⟨an, cn, h⟩ := hc i s hi
      exact ⟨an, cn, h.n⟩)
namespace Pl
def psum (p : List Tv) (i : Nat) : Nat := ((p.take i).map ssz).sum
theorem psum_succ {p : List Tv} {i : Nat} {s : Tv} (h : p[i]? = some s) : psum p (i + 1) = psum p i + ssz s := by
  unfold psum
  rw [List.take_add_one, h]
  simp
theorem psum_le (p : List Tv) (i : Nat) : psum p i ≤ psum p p.length := by
  unfold psum
  rw [List.take_length]
  have e : p = p.take i ++ p.drop i := (List.take_append_drop i p).symm
  have := congrArg (fun l => (l.map ssz).sum) e
  simp only [List.map_append, List.sum_append] at this
  omega
theorem psz_eq (p : List Tv) : psz p = p.length + psum p p.length := by unfold psz psum; rw [List.take_length]
def gsum (p : List Gv) (i : Nat) : Nat := ((p.take i).map gsz).sum
theorem gsum_succ {p : List Gv} {i : Nat} {s : Gv} (h : p[i]? = some s) : gsum p (i + 1) = gsum p i + gsz s := by
  unfold gsum
  rw [List.take_add_one, h]
  simp
theorem gsum_le (p : List Gv) (i : Nat) : gsum p i ≤ gsum p p.length := by
  unfold gsum
  rw [List.take_length]
  have e : p = p.take i ++ p.drop i := (List.take_append_drop i p).symm
  have := congrArg (fun l => (l.map gsz).sum) e
  simp only [List.map_append, List.sum_append] at this
  omega
theorem ssz_eq (s : Tv) : ssz s = csz s.code + s.gs.length + gsum s.gs s.gs.length := by unfold ssz gsum; rw [List.take_length]
end Pl
set_option maxHeartbeats 4000000 in
/-- spec.l3SizeOk -/
theorem l3SizeOk_any (p : List Pl.Tv) (ao : Option Addr) (cap : Nat) (hl : Pl.psz p ≤ 1048576) (w : World) (hR : RdP w.heap.size w ao p) :
    Calls Tryz.prog 20 #[.slice ao p.length cap] w fun e w' => e = .returned (.bool (decide (Pl.psz p ≤ 16000))) ∧ Below w.heap.size w w' := by
  rcases hR with rfl | ⟨b, off, hb, rfl, hc⟩
  · go_enter Tryz.func20, Tryz.ntmps20
    go_wp2
    go_loop [3, 4] (fun u v => v = .int .i64 0 ∧ u = .int .i64 0) (fun u v => 0)
    case atStart => exact ⟨rfl, rfl⟩
    case round =>
      obtain ⟨rfl, rfl⟩ := hrel
      go_wp2
      go_ret
      exact ⟨rfl, Below.refl _ _⟩
  have HS : Hid (∀ k s, p[k]? = some s → Pl.psum p (k + 1) = Pl.psum p k + Pl.ssz s) := fun k s => Pl.psum_succ
  have HM : Hid (∀ k, Pl.psum p k ≤ Pl.psum p p.length) := Pl.psum_le p
  have HG : Hid (∀ k, k < p.length → ∃ s, p[k]? = some s) := fun k hk => ⟨p[k], List.getElem?_eq_getElem hk⟩
  have HC := hideP hc
  clear hc
  have E0 := hideP (Pl.psz_eq p)
  rw [E0.out] at hl
  rw [E0.out]
  clear E0
  generalize hL : p.length = L at *
  have hL2 : L ≤ 1048576 := by omega
  go_enter Tryz.func20, Tryz.ntmps20
  go_wp2
  go_loopw [3, 4] (fun u v wr => ∃ k : Nat, k ≤ L ∧ v = .int .i64 k ∧ u = .int .i64 (L + Pl.psum p k : Nat) ∧ Hid (Below w.heap.size w wr)) (fun _ v _ => L - (intOf v).toNat)
  case atStart => exact ⟨0, Nat.zero_le _, rfl, by simp [Pl.psum], Below.refl _ _⟩
  case round =>
    rename World => wo
    obtain ⟨k, hk, rfl, rfl, hbel⟩ := hrel
    by_cases hlt : k < L
    · obtain ⟨s, hs⟩ := HG.out k hlt
      obtain ⟨a1, a2, c1, c2, hsm⟩ := HC.out k s hs
      have N := hideP (HS.out k s hs)
      have M1 := HM.out (k + 1)
      rw [N.out, Pl.ssz_eq] at M1
      have hsm := hsm.keep hb hbel.out
      obtain ⟨d0, d1, d2, d3, rc, rg⟩ := hsm
      clear HS HM HG HC hs d0 d1
      have ESZ := hideP (Pl.ssz_eq s)
      have K : Hid (∀ m, Calls Tryz.prog 36 #[.slice a1 s.code.length c1] (wo.drewN m) fun e w' => e = .returned (.int .i64 (Pl.csz s.code : Nat)) ∧ w' = wo.drewN m) := fun m => l3Size_rd s.code a1 c1 w.heap.size (by omega) (wo.drewN m) (rc.keep (below_drewN (Below.refl _ _) m))
      have HRG : Hid (∀ w', Below w.heap.size wo w' → RdG w.heap.size w' a2 s.gs) := fun w' h => rg.keep h
      have HD3 : Hid (∀ w', Below w.heap.size wo w' → w'.cell? ⟨b, off + k * 4 + 3, none⟩ = some (.slice a2 s.gs.length c2)) := fun w' h => (h.cell (p := ⟨b, off + k * 4 + 3, none⟩) hb).trans d3
      have HGG : Hid (∀ j, j < s.gs.length → ∃ g, s.gs[j]? = some g) := fun j hj => ⟨s.gs[j], List.getElem?_eq_getElem hj⟩
      have HGS : Hid (∀ j g, s.gs[j]? = some g → Pl.gsum s.gs (j + 1) = Pl.gsum s.gs j + Pl.gsz g) := fun j g => Pl.gsum_succ
      have HGM : Hid (∀ j, Pl.gsum s.gs j ≤ Pl.gsum s.gs s.gs.length) := Pl.gsum_le s.gs
      have HNE : Hid (∀ j, j < s.gs.length → s.gs ≠ []) := fun j hj e => by rw [e] at hj; cases hj
      have BR : Hid (∀ m, Below w.heap.size wo (wo.drewN m)) := fun m => below_drewN (Below.refl _ _) m
      clear rc rg
      generalize Pl.csz s.code = cs at *
      generalize s.code.length = cl at *
      generalize hgl : s.gs.length = G at *
      generalize hgt : Pl.gsum s.gs G = T at *
      generalize Pl.psum p k = y at *
      have HGT := hideP hgt
      clear hgt hgl
      go_wp2
      go_quiet ((go_at_call 36; exact Calls.quiet_of_same (K.out _)))
      go_wp2
      go_loopw [3, 5] (fun u v wr => ∃ j : Nat, j ≤ G ∧ v = .int .i64 j ∧ u = .int .i64 (L + y + cs + G + Pl.gsum s.gs j : Nat) ∧ Hid (Below w.heap.size wo wr)) (fun _ v _ => G - (intOf v).toNat)
      case atStart => exact ⟨0, Nat.zero_le _, rfl, by simp [Pl.gsum]; omega, BR.out _⟩
      case round =>
        obtain ⟨j, hj, rfl, rfl, hbx⟩ := hrel
        have e3 := HD3.out _ hbx.out
        by_cases hlj : j < G
        · obtain ⟨g, hg⟩ := HGG.out j hlj
          obtain ⟨b2, o2, hb2, rfl, hcg⟩ := (HRG.out _ hbx.out).resolve_left (HNE.out j hlj)
          obtain ⟨t1, t2, u1, u2, hgd⟩ := hcg j g hg
          have NG := hideP (HGS.out j g hg)
          have MG := HGM.out (j + 1)
          rw [NG.out] at MG
          obtain ⟨g0, g1, r0, r1⟩ := hgd
          have EG : Pl.gsz g = Pl.csz g.test + Pl.csz g.thn := rfl
          rw [EG] at NG MG
          have K1 : Hid (∀ m, Calls Tryz.prog 36 #[.slice t1 g.test.length u1] (wr.drewN m) fun e w' => e = .returned (.int .i64 (Pl.csz g.test : Nat)) ∧ w' = wr.drewN m) := fun m => l3Size_rd g.test t1 u1 w.heap.size (by omega) (wr.drewN m) (r0.keep (below_drewN (Below.refl _ _) m))
          have K2 : Hid (∀ m, Calls Tryz.prog 36 #[.slice t2 g.thn.length u2] (wr.drewN m) fun e w' => e = .returned (.int .i64 (Pl.csz g.thn : Nat)) ∧ w' = wr.drewN m) := fun m => l3Size_rd g.thn t2 u2 w.heap.size (by omega) (wr.drewN m) (r1.keep (below_drewN (Below.refl _ _) m))
          have BX : Hid (∀ m, Below w.heap.size wo (wr.drewN m)) := fun m => below_drewN hbx.out m
          clear HRG HD3 HGG HGS HGM HNE BR hg hcg r0 r1 EG K
          generalize Pl.csz g.test = x1 at *
          generalize Pl.csz g.thn = x2 at *
          generalize g.test.length = l1 at *
          generalize g.thn.length = l2 at *
          generalize Pl.gsum s.gs j = z at *
          go_wp2
          go_quiet (first | (go_at_call 36; with_reducible exact Calls.quiet_of_same (K1.out _)) | (go_at_call 36; with_reducible exact Calls.quiet_of_same (K2.out _)))
          go_wp2
          go_roundw
          case rel => exact ⟨j + 1, by omega, by go_num, by rw [NG.out]; go_num, BX.out _⟩
          case measure => simp [intOf]; omega
        · obtain rfl : j = G := by omega
          have HF : Hid (Below w.heap.size w wr) := hbel.out.trans hbx.out
          clear HRG HD3 HGG HGS HGM HNE BR K
          have EY : Hid (L + Pl.psum p (k + 1) = L + y + cs + j + Pl.gsum s.gs j) := by show _ = _; rw [N.out, ESZ.out, HGT.out]; omega
          go_wp2
          go_roundw
          case rel => exact ⟨k + 1, by omega, by go_num, by rw [EY.out], HF.out⟩
          case measure => simp [intOf]; omega
    · obtain rfl : k = L := by omega
      clear HS HM HG HC
      go_wp2
      go_ret
      exact ⟨ret_bool (by rw [Bool.eq_iff_iff]; simp only [decide_eq_true_eq]; omega), hbel.out⟩
namespace Pl
def hitB (f : Fnv) (m : Mg) : Bool := decide (f = m.one) || decide (f = m.two)
theorem sgn_hit {f : Fnv} {k : Nat} {m : Mg} (hk : mgs[k]? = some m) (hb : ∀ x ∈ mgs.take k, hitB f x = false) (hm : hitB f m = true) : sgn f = m.t := by
  unfold sgn
  have hlt := (List.getElem?_eq_some_iff.1 hk).1
  have e : mgs = mgs.take k ++ m :: mgs.drop (k + 1) := by
    have := (List.take_append_drop k mgs).symm
    rw [List.drop_eq_getElem_cons hlt] at this
    rw [(List.getElem?_eq_some_iff.1 hk).2] at this
    exact this
  have : mgs.find? (fun m => decide (f = m.one) || decide (f = m.two)) = some m := by
    rw [e, List.find?_append]
    have h0 : (mgs.take k).find? (fun m => decide (f = m.one) || decide (f = m.two)) = none := by
      rw [List.find?_eq_none]
      intro x hx
      have := hb x hx
      unfold hitB at this
      rw [this]; decide
    rw [h0]
    unfold hitB at hm
    simp [hm]
  rw [this]
theorem sgn_miss {f : Fnv} (hb : ∀ x ∈ mgs.take 25, hitB f x = false) : sgn f = [] := by
  have h0 : mgs.find? (fun m => decide (f = m.one) || decide (f = m.two)) = none := by
    rw [List.find?_eq_none]
    intro x hx
    have : mgs.take 25 = mgs := rfl
    rw [this] at hb
    have := hb x hx
    unfold hitB at this
    rw [this]; decide
  unfold sgn
  rw [h0]
theorem hit_next {f : Fnv} {k : Nat} {m : Mg} (hk : mgs[k]? = some m) (hb : ∀ x ∈ mgs.take k, hitB f x = false) (hm : hitB f m = false) : ∀ x ∈ mgs.take (k + 1), hitB f x = false := by
  intro x hx
  rw [List.take_add_one, hk] at hx
  rcases List.mem_append.1 hx with h | h
  · exact hb x h
  · have : x = m := by simpa using h
    rw [this]; exact hm
theorem one_iff (f : Fnv) (m : Mg) : decide (f = m.one) = (decide (f.k = m.ok) && decide (f.a = m.ow) && decide (f.b = 0) && decide (ba f.nm = ⟨#[]⟩)) := by
  obtain ⟨k, a, b, nm⟩ := f
  rw [Bool.eq_iff_iff]
  have : ba nm = ⟨#[]⟩ ↔ nm = [] := by rw [ba_iff]; exact Iff.rfl
  simp only [Mg.one, Fnv.mk.injEq, decide_eq_true_eq, Bool.and_eq_true, this]
  exact ⟨fun ⟨a, b, c, d⟩ => ⟨⟨⟨a, b⟩, c⟩, d⟩, fun ⟨⟨⟨a, b⟩, c⟩, d⟩ => ⟨a, b, c, d⟩⟩
theorem two_iff (f : Fnv) (m : Mg) : decide (f = m.two) = (decide (f.k = m.tk) && decide (f.a = m.tw) && decide (f.b = 0) && decide (ba f.nm = ⟨#[]⟩)) := by
  obtain ⟨k, a, b, nm⟩ := f
  rw [Bool.eq_iff_iff]
  have : ba nm = ⟨#[]⟩ ↔ nm = [] := by rw [ba_iff]; exact Iff.rfl
  simp only [Mg.two, Fnv.mk.injEq, decide_eq_true_eq, Bool.and_eq_true, this]
  exact ⟨fun ⟨a, b, c, d⟩ => ⟨⟨⟨a, b⟩, c⟩, d⟩, fun ⟨⟨⟨a, b⟩, c⟩, d⟩ => ⟨a, b, c, d⟩⟩
end Pl
set_option maxHeartbeats 4000000 in
/-- impl.signOf -/
theorem signOf_any (f : Pl.Fnv) (mb mo cp : Nat) (w : World) (hm : Mt w mb mo cp) :
    Calls Tryz.prog 103 #[.agg #[.int .i64 f.k, .int .i64 f.a, .int .i64 f.b, .string (Pl.ba f.nm)]] w fun e w' => e = .returned (.string (Pl.ba (Pl.sgn f))) ∧ Below w.heap.size w w' := by
  obtain ⟨h1, h2, h3, h4, h5⟩ := hm
  have HT := hideP h4
  clear h4 h5
  have HSH := fun k m => @Pl.sgn_hit f k m
  have HSM := @Pl.sgn_miss f
  have HNX := fun k m => @Pl.hit_next f k m
  have HE1 : Hid (∀ (m : Pl.Mg) (w : World), (Op.equalIn 10000 38 (.agg #[.int .i64 f.k, .int .i64 f.a, .int .i64 f.b, .string (Pl.ba f.nm)]) (.agg #[.int .i64 m.ok, .int .i64 m.ow, .int .i64 0, .string ⟨#[]⟩])).run Tryz.prog w = .ok (decide (f = m.one)) w) := fun m w => by rw [Pl.one_iff]; exact eq78 _ _ _ _ _ _ _ _ w
  have HE2 : Hid (∀ (m : Pl.Mg) (w : World), (Op.equalIn 10000 38 (.agg #[.int .i64 f.k, .int .i64 f.a, .int .i64 f.b, .string (Pl.ba f.nm)]) (.agg #[.int .i64 m.tk, .int .i64 m.tw, .int .i64 0, .string ⟨#[]⟩])).run Tryz.prog w = .ok (decide (f = m.two)) w) := fun m w => by rw [Pl.two_iff]; exact eq78 _ _ _ _ _ _ _ _ w
  have HSH := hideP HSH
  have HSM := hideP HSM
  have HNX := hideP HNX
  generalize Pl.sgn f = sg at *
  generalize Pl.ba f.nm = nm at *
  generalize f.k = fk at *
  generalize f.a = fa at *
  generalize f.b = fb at *
  obtain ⟨W0, hW0⟩ : ∃ W0, w.alloc (.cells #[.int .i64 fk, .int .i64 fa, .int .i64 fb, .string nm] 38) = W0 := ⟨_, rfl⟩
  have HS0 : Hid (W0.heap.size = w.heap.size + 1) := by show _ = _; rw [← hW0]; simp
  have HB0 : Hid (Below w.heap.size w W0) := by show Below _ _ _; rw [← hW0]; exact (Below.refl _ _).alloc (Nat.le_refl _) _
  have HK0 : Hid (W0.heap[w.heap.size]? = some (.cells #[.int .i64 fk, .int .i64 fa, .int .i64 fb, .string nm] 38)) := by show _ = _; rw [← hW0]; exact heap_alloc_new w _
  have g0 : ∀ o, (w.alloc o).cell? ⟨1, 0, none⟩ = some (.slice (some ⟨mb, mo, none⟩) 25 cp) := fun o => (((Below.refl w.heap.size w).alloc (Nat.le_refl _) o).cell (p := ⟨1, 0, none⟩) (show 1 < w.heap.size by omega)).trans h1
  have HW0 := hideP hW0
  have HR0 : Hid (Below (w.heap.size + 1) W0 W0) := Below.refl _ _
  clear hW0
  have HC : Hid (∀ k m wr, Pl.mgs[k]? = some m → Below (w.heap.size + 1) W0 wr → wr.cell? ⟨mb, mo + k * 5, none⟩ = some (.string (Pl.ba m.t)) ∧ wr.cell? ⟨mb, mo + k * 5 + 1, none⟩ = some (.int .i64 m.ok) ∧ wr.cell? ⟨mb, mo + k * 5 + 2, none⟩ = some (.int .i64 m.ow) ∧ wr.cell? ⟨mb, mo + k * 5 + 3, none⟩ = some (.int .i64 m.tk) ∧ wr.cell? ⟨mb, mo + k * 5 + 4, none⟩ = some (.int .i64 m.tw)) := fun k m wr hk hb => by
    obtain ⟨a, b, c, d, e⟩ := HT.out k m hk
    have hb' : Below w.heap.size w wr := HB0.out.trans (hb.mono (Nat.le_succ _))
    exact ⟨(hb'.cell (p := ⟨mb, mo + k * 5, none⟩) h2).trans a, (hb'.cell (p := ⟨mb, mo + k * 5 + 1, none⟩) h2).trans b, (hb'.cell (p := ⟨mb, mo + k * 5 + 2, none⟩) h2).trans c, (hb'.cell (p := ⟨mb, mo + k * 5 + 3, none⟩) h2).trans d, (hb'.cell (p := ⟨mb, mo + k * 5 + 4, none⟩) h2).trans e⟩
  clear HT h1 h2 h3
  go_enter Tryz.func103, Tryz.ntmps103
  go_wp2_with fail
  rw [HW0.out]
  go_loopw [8] (fun v wr => ∃ k : Nat, k ≤ 25 ∧ v = .int .i64 k ∧ Hid (∀ x ∈ Pl.mgs.take k, Pl.hitB f x = false) ∧ Hid (Below (w.heap.size + 1) W0 wr)) (fun v _ => 25 - (intOf v).toNat)
  case atStart => exact ⟨0, by omega, rfl, fun x hx => by simp at hx, HR0⟩
  case round =>
    obtain ⟨k, hk, rfl, hno, hbx⟩ := hrel
    have hsz : w.heap.size + 1 ≤ wr.heap.size := by have := hbx.out.size; have := HS0.out; omega
    by_cases hlt : k < 25
    · obtain ⟨m, hm⟩ := Pl.mgs_some k hlt
      obtain ⟨c0, c1, c2, c3, c4⟩ := HC.out k m wr hm hbx.out
      have K := hideP (uses_any (Pl.ba m.t) m.ok m.ow m.tk m.tw)
      have hq1 := HE1.out m
      have hq2 := HE2.out m
      have HIT := hideP (HSH.out k m hm hno.out)
      have MISS := hideP (HNX.out k m hm hno.out)
      have HDF : Hid (Pl.hitB f m = (decide (f = m.one) || decide (f = m.two))) := rfl
      have HBX : Hid (∀ o w', Below (wr.alloc o).heap.size (wr.alloc o) w' → w'.heap[w.heap.size]? = some (.cells #[.int .i64 fk, .int .i64 fa, .int .i64 fb, .string nm] 38) ∧ Below (w.heap.size + 1) W0 w' ∧ wr.heap.size < w'.heap.size ∧ ∀ j v, (wr.alloc o).cell? ⟨wr.heap.size, j, none⟩ = some v → w'.cell? ⟨wr.heap.size, j, none⟩ = some v) := fun o w' hb => by
        have hb2 : Below (w.heap.size + 1) W0 w' := (hbx.out.alloc hsz o).trans (hb.mono (by simp; omega))
        exact ⟨(hb2.block w.heap.size (Nat.lt_succ_self _)).trans HK0.out, hb2, Nat.lt_of_lt_of_le (by simp) hb.size, fun j v h => (hb.cell (p := ⟨wr.heap.size, j, none⟩) (by simp)).trans h⟩
      clear HC HE1 HE2 HSH HNX HSM hm
      generalize hmt : Pl.ba m.t = t at *
      have HMT := hideP hmt
      clear hmt
      generalize decide (f = m.one) = d1 at *
      generalize decide (f = m.two) = d2 at *
      go_wp2_with fail
      refine (K.out _).mono ?_
      rintro e w2 ⟨rfl, hb2⟩
      obtain ⟨hblk, hbw, hlt2, hcc⟩ := HBX.out _ _ hb2
      have y0 := hcc 0 _ (by simp [go_sem]; rfl)
      have z0 := cell_blk hblk 0
      have z1 := cell_blk hblk 1
      have z2 := cell_blk hblk 2
      have z3 := cell_blk hblk 3
      simp at z0 z1 z2 z3
      have HBW := hideP hbw
      have y0' : ∀ o, (w2.alloc o).cell? ⟨wr.heap.size, 0, none⟩ = some (.string t) := fun o => (((Below.refl w2.heap.size w2).alloc (Nat.le_refl _) o).cell (p := ⟨wr.heap.size, 0, none⟩) hlt2).trans y0
      have hws : w.heap.size < w2.heap.size := by omega
      have AL : Hid (∀ o j v, w2.cell? ⟨w.heap.size, j, none⟩ = some v → (w2.alloc o).cell? ⟨w.heap.size, j, none⟩ = some v) := fun o j v h => (((Below.refl w2.heap.size w2).alloc (Nat.le_refl _) o).cell (p := ⟨w.heap.size, j, none⟩) hws).trans h
      have z0' := fun o => AL.out o 0 _ z0
      have z1' := fun o => AL.out o 1 _ z1
      have z2' := fun o => AL.out o 2 _ z2
      have z3' := fun o => AL.out o 3 _ z3
      have HBA : Hid (∀ o, Below (w.heap.size + 1) W0 (w2.alloc o)) := fun o => HBW.out.alloc (by omega) o
      clear hb2 hblk hbw hcc y0 z0 z1 z2 z3
      cases d1
      · cases d2
        · have HN := hideP (MISS.out (by rw [HDF.out]; rfl))
          go_wp2_with fail
          go_roundw
          case rel => exact ⟨k + 1, by omega, by go_num, HN.out, HBA.out _⟩
          case measure => simp [intOf]; omega
        · have HN := hideP (HIT.out (by rw [HDF.out]; rfl))
          go_wp2_with fail
          go_ret
          exact ⟨ret_str (by rw [HN.out, HMT.out]), HB0.out.trans ((HBA.out _).mono (Nat.le_succ _))⟩
      · have HN := hideP (HIT.out (by rw [HDF.out]; rfl))
        go_wp2_with fail
        go_ret
        exact ⟨ret_str (by rw [HN.out, HMT.out]), HB0.out.trans ((HBA.out _).mono (Nat.le_succ _))⟩
    · obtain rfl : k = 25 := by omega
      have HN := hideP (HSM.out hno.out)
      have HBW := hideP (HB0.out.trans (hbx.out.mono (Nat.le_succ _)))
      clear HC HE1 HE2 HSH HNX HSM hno
      go_wp2_with fail
      go_ret
      exact ⟨ret_str (by rw [HN.out]; rfl), HBW.out⟩
/-- impl.operationSign -/
theorem operationSign_any (n : Int) (mb mo cp : Nat) (w : World) (hm : Mt w mb mo cp) :
    Calls Tryz.prog 102 #[.int .i64 n] w fun e w' => e = .returned (.string (Pl.ba (Pl.osg n))) ∧ Below w.heap.size w w' := by
  have K : Hid (Calls Tryz.prog 103 #[.agg #[.int .i64 5, .int .i64 n, .int .i64 0, .string ⟨#[]⟩]] w fun e w' => e = .returned (.string (Pl.ba (Pl.osg n))) ∧ Below w.heap.size w w') := signOf_any ⟨5, n, 0, []⟩ mb mo cp w hm
  clear hm
  generalize Pl.ba (Pl.osg n) = r at *
  go_enter Tryz.func102, Tryz.ntmps102
  go_wp2_with (go_at_call 103; refine K.out.mono ?_; rintro e w' ⟨rfl, hb⟩)
  go_ret
  exact ⟨rfl, hb⟩
namespace Pl
/-- leftBehindCode behind k steps -/
def lbs (y : Int) (c : List Sv) : Nat → Int
  | 0 => y
  | k + 1 => if 0 ≤ lbs y c k then lbs y c k - ((c.getD k ⟨0, [], [], f0⟩).nums.length : Nat) else lbs y c k
def lbF (x : Int) (c : List Sv) : Int := lbs (x - c.length) c c.length
theorem lbs_stop {y : Int} {c : List Sv} {k : Nat} (h : lbs y c k < 0) : ∀ d, lbs y c (k + d) = lbs y c k := by
  intro d
  induction d with
  | zero => rfl
  | succ d ih =>
    show (if 0 ≤ lbs y c (k + d) then lbs y c (k + d) - ((c.getD (k + d) ⟨0, [], [], f0⟩).nums.length : Nat) else lbs y c (k + d)) = _
    rw [ih, if_neg (by omega)]
theorem lbs_spec {y : Int} {c : List Sv} : ∀ k, k ≤ c.length → y - (nsum c k : Nat) ≤ lbs y c k ∧ (0 ≤ y - (nsum c k : Nat) → lbs y c k = y - (nsum c k : Nat)) ∧ (y - (nsum c k : Nat) < 0 → lbs y c k < 0 ∨ (k = 0)) ∧ lbs y c k ≤ y := by
  intro k
  induction k with
  | zero => intro _; simp [lbs, nsum]
  | succ k ih =>
    intro hk
    have hlt : k < c.length := hk
    obtain ⟨h1, h2, h3, h4⟩ := ih (by omega)
    have hs := nsum_succ (List.getElem?_eq_getElem hlt)
    have hd : c.getD k ⟨0, [], [], f0⟩ = c[k] := by rw [List.getD_eq_getElem?_getD, List.getElem?_eq_getElem hlt]; rfl
    unfold lbs
    rw [hd, hs]
    split
    · rename_i h0
      refine ⟨by omega, fun h => ?_, fun h => ?_, by omega⟩
      · have := h2 (by omega); omega
      · left
        by_cases hp : 0 ≤ y - (nsum c k : Nat)
        · have := h2 hp; omega
        · rcases h3 (by omega) with h | h
          · omega
          · subst h
            have e : lbs y c 0 = y := rfl
            have e2 : nsum c 0 = 0 := rfl
            omega
    · rename_i h0
      refine ⟨by omega, fun h => ?_, fun h => by left; omega, by omega⟩
      have := h2 (by omega)
      omega
theorem lbF_spec {x : Int} {c : List Sv} : x - (csz c : Nat) ≤ lbF x c ∧ (0 ≤ x - (csz c : Nat) → lbF x c = x - (csz c : Nat)) ∧ (x - (csz c : Nat) < 0 → lbF x c < 0) ∧ lbF x c ≤ x := by
  obtain ⟨h1, h2, h3, h4⟩ := lbs_spec (y := x - c.length) (c := c) c.length (Nat.le_refl _)
  have e := csz_eq c
  unfold lbF
  refine ⟨by omega, fun h => by have := h2 (by omega); omega, fun h => ?_, by omega⟩
  rcases h3 (by omega) with h | h
  · exact h
  · have : lbs (x - c.length) c c.length = x - c.length := by rw [h]; rfl
    have e2 : nsum c c.length = 0 := by rw [h]; rfl
    omega
end Pl
set_option maxHeartbeats 4000000 in
/-- impl.leftBehindCode -/
theorem leftBehind_fx (x : Int) (c : List Pl.Sv) (ao : Option Addr) (cap B : Nat) (hx0 : -1000000000 ≤ x) (hx1 : x ≤ 1000000000) (hl : Pl.csz c ≤ 1048576) (w : World) (hR : RdS B w ao c) :
    Calls Tryz.prog 44 #[.int .i64 x, .slice ao c.length cap] w fun e w' => e = .returned (.int .i64 (Pl.lbF x c)) ∧ w' = w := by
  have HG : Hid (∀ k, k < c.length → ∃ b off a cp, ao = some ⟨b, off, none⟩ ∧ w.cell? ⟨b, off + k * 7 + 1, none⟩ = some (.slice a (c.getD k ⟨0, [], [], Pl.f0⟩).nums.length cp)) := fun k hk => by
    rcases hR with rfl | ⟨b, off, hb, rfl, hc⟩
    · cases hk
    · obtain ⟨an, cn, h⟩ := hc k c[k] (List.getElem?_eq_getElem hk)
      refine ⟨b, off, an, cn, rfl, ?_⟩
      have hd : c.getD k ⟨0, [], [], Pl.f0⟩ = c[k] := by rw [List.getD_eq_getElem?_getD, List.getElem?_eq_getElem hk]; rfl
      rw [hd]
      exact h.n
  have HB : Hid (∀ k, k ≤ c.length → -10000000000 ≤ Pl.lbs (x - c.length) c k ∧ Pl.lbs (x - c.length) c k ≤ 10000000000) := fun k hk => by
    have h := Pl.lbs_spec (y := x - c.length) (c := c) k hk
    have h2 := Pl.nsum_le c k
    have h3 := Pl.csz_eq c
    omega
  have HS : Hid (∀ k, Pl.lbs (x - c.length) c k < 0 → k ≤ c.length → Pl.lbF x c = Pl.lbs (x - c.length) c k) := fun k h hk => by
    have := Pl.lbs_stop h (c.length - k)
    rw [show k + (c.length - k) = c.length by omega] at this
    exact this
  have HN : Hid (∀ k, 0 ≤ Pl.lbs (x - c.length) c k → Pl.lbs (x - c.length) c (k + 1) = Pl.lbs (x - c.length) c k - ((c.getD k ⟨0, [], [], Pl.f0⟩).nums.length : Nat)) := fun k h => by
    show (if 0 ≤ Pl.lbs (x - c.length) c k then _ else _) = _
    rw [if_pos h]
  have HE : Hid (Pl.lbF x c = Pl.lbs (x - c.length) c c.length) := rfl
  have H0 : Hid (Pl.lbs (x - c.length) c 0 = x - c.length) := rfl
  have hln : c.length ≤ 1048576 := by have := Pl.csz_eq c; omega
  clear hR hl
  generalize Pl.lbF x c = r at *
  generalize hL : c.length = L at *
  clear hL
  go_enter Tryz.func44, Tryz.ntmps44
  go_wp2
  go_loop [0, 5] (fun u v => ∃ k : Nat, k ≤ L ∧ v = .int .i64 k ∧ u = .int .i64 (Pl.lbs (x - L) c k)) (fun u v => L - (intOf v).toNat)
  case atStart => exact ⟨0, Nat.zero_le _, rfl, by rw [H0.out]⟩
  case round =>
    obtain ⟨k, hk, rfl, rfl⟩ := hrel
    obtain ⟨b1, b2⟩ := HB.out k hk
    by_cases hlt : k < L
    · by_cases h0 : 0 ≤ Pl.lbs (x - L) c k
      · obtain ⟨b, off, a, cp, rfl, hcell⟩ := HG.out k hlt
        have N := hideP (HN.out k h0)
        have bb := HB.out (k + 1) (by omega)
        rw [N.out] at bb
        clear HG HB HS HN HE H0
        generalize (c.getD k ⟨0, [], [], Pl.f0⟩).nums.length = q at *
        generalize Pl.lbs (x - L) c k = y at *
        go_wp2
        go_round
        case rel => exact ⟨k + 1, by omega, by go_num, by rw [N.out]⟩
        case measure => simp [intOf]; omega
      · have HR := hideP (HS.out k (by omega) hk)
        clear HG HB HS HN HE H0
        generalize Pl.lbs (x - L) c k = y at *
        go_wp2
        go_ret
        exact ⟨ret_int HR.out.symm, rfl⟩
    · obtain rfl : k = L := by omega
      clear HG HB HS HN H0
      go_wp2
      go_ret
      exact ⟨ret_int HE.out.symm, rfl⟩
end Go.Proofs.YthhfpcdbgndioaaGreatDoor
