import Derived.Test.YtljkolffjjhgeaaGreatDoorTxt
namespace Go.Proofs.YtljkolffjjhgeaaGreatDoor
open Go.RowKit
set_option linter.unusedVariables false
set_option maxRecDepth 100000
namespace Pl
/-- code that is not too great -/
structure Small (c : List Sv) : Prop where
  sz : csz c ≤ 1048576
  nm : ∀ s ∈ c, s.nm.length ≤ 1048576 ∧ s.fn.nm.length ≤ 1048576
theorem Small.len {c : List Sv} (h : Small c) : c.length ≤ 1048576 := by have := csz_eq c; have := h.sz; omega
theorem Small.nums {c : List Sv} (h : Small c) {s : Sv} (hs : s ∈ c) : s.nums.length ≤ 1048576 := by
  have h2 := h.sz
  unfold csz at h2
  have : s.nums.length ≤ (c.map fun s => s.nums.length).sum := by
    clear h h2
    induction c with
    | nil => cases hs
    | cons x c ih =>
      rw [List.map_cons, List.sum_cons]
      rcases List.mem_cons.1 hs with rfl | h
      · omega
      · have := ih h; omega
  omega
theorem xt_nil (nt : Int → List UInt8) : xt nt [] = none := rfl
theorem xt_no {nt : Int → List UInt8} {c : List Sv} (h : sta c c.length ≠ 0) : (xt nt c).isSome = false := by
  unfold xt
  unfold sta at h
  cases e : nd c c.length with
  | none => rfl
  | some r =>
    obtain ⟨t, m⟩ := r
    rw [e] at h
    cases m with
    | zero => exact absurd rfl h
    | succ m => rfl
theorem sta_zero_iff {c : List Sv} {n : Nat} (h : sta c n = 0) : ∃ t, nd c n = some (t, 0) := by
  unfold sta at h
  cases e : nd c n with
  | none => rw [e] at h; exact absurd h (by decide)
  | some r =>
    obtain ⟨t, m⟩ := r
    rw [e] at h
    simp only [] at h
    obtain rfl : m = 0 := by omega
    exact ⟨t, rfl⟩
theorem xt_bad {nt : Int → List UInt8} {c : List Sv} {s : Sv} (hs : s ∈ c) (h : sok s = false) : (xt nt c).isSome = false := by
  have : c.all sok ≠ true := by
    intro e
    have := List.all_eq_true.1 e s hs
    rw [h] at this; cases this
  unfold xt
  split
  · rw [if_neg (fun e => this e.1)]; rfl
  · rfl
theorem xt_ok {nt : Int → List UInt8} {c : List Sv} {t : Nd Sv} (h : nd c c.length = some (t, 0)) (ha : ∀ s ∈ c, sok s = true) : (xt nt c).isSome = decide (nest t ≤ 40) := by
  unfold xt
  rw [h]
  simp only [List.all_eq_true.2 ha, true_and]
  split
  · rename_i e; rw [decide_eq_true e]; rfl
  · rename_i e; rw [decide_eq_false e]; rfl
theorem xt_get {nt : Int → List UInt8} {c : List Sv} {x : List UInt8} (h : xt nt c = some x) : ∃ t, nd c c.length = some (t, 0) ∧ (∀ s ∈ c, sok s = true) ∧ x = txt (ta nt) tf t := by
  unfold xt at h
  split at h
  · rename_i t e
    split at h
    · rename_i e2
      exact ⟨t, e, List.all_eq_true.1 e2.1, (Option.some.inj h).symm⟩
    · cases h
  · cases h
theorem all_take {c : List Sv} {k : Nat} (h : (c.take k).all sok = true) (hk : k = c.length) : ∀ s ∈ c, sok s = true := by
  rw [hk, List.take_length] at h
  exact List.all_eq_true.1 h
theorem all_succ {c : List Sv} {k : Nat} {s : Sv} (h : c[k]? = some s) : (c.take (k + 1)).all sok = ((c.take k).all sok && sok s) := by
  rw [List.take_add_one, h, List.all_append]
  simp
end Pl
set_option maxHeartbeats 4000000 in
/-- spec.l3CodeOk -/
theorem l3CodeOk_any (c : List Pl.Sv) (ao : Option Addr) (cap : Nat) (hsm : Pl.Small c) (w : World) (hR : RdS w.heap.size w ao c) :
    Calls Tryz.prog 18 #[.slice ao c.length cap] w fun e w' => e = .returned (.bool (Pl.xt Pl.nt c).isSome) ∧ Below w.heap.size w w' := by
  have hlen := hsm.len
  rcases hR with rfl | ⟨b, off, hb, rfl, hc⟩
  · go_enter Tryz.func18, Tryz.ntmps18
    go_wp2
    go_ret
    exact ⟨rfl, Below.refl _ _⟩
  by_cases h0 : c = []
  · subst h0
    go_enter Tryz.func18, Tryz.ntmps18
    go_wp2
    go_ret
    exact ⟨rfl, Below.refl _ _⟩
  have hpos : 0 < c.length := List.length_pos_iff.2 h0
  have K : Hid (Calls Tryz.prog 33 #[.slice (some ⟨b, off, none⟩) c.length cap, .int .i64 ((c.length : Int) - 1)] w fun e w' => e = .returned (.int .i64 (Pl.sta c c.length)) ∧ w' = w) := l3Start_any c b off cap hlen w (fun i s hi => (hc i s hi).choose_spec.choose_spec.k) c.length (Nat.le_refl _)
  by_cases hst : Pl.sta c c.length = 0
  · obtain ⟨t, ht⟩ := Pl.sta_zero_iff hst
    rw [hst] at K
    have HC : Hid (∀ i s, c[i]? = some s → ∃ an cn, Stp w.heap.size w b (off + i * 7) s an cn) := hc
    have HG : Hid (∀ i, i < c.length → ∃ s, c[i]? = some s ∧ s ∈ c) := fun i hi => ⟨c[i], List.getElem?_eq_getElem hi, List.getElem_mem hi⟩
    have HX : Hid (∀ s ∈ c, Pl.sok s = false → (Pl.xt Pl.nt c).isSome = false) := fun s hs h => Pl.xt_bad hs h
    have HA : Hid (∀ k s, c[k]? = some s → (c.take (k + 1)).all Pl.sok = ((c.take k).all Pl.sok && Pl.sok s)) := fun k s => Pl.all_succ
    have HE : Hid (∀ k, k = c.length → (c.take k).all Pl.sok = true → ∀ s ∈ c, Pl.sok s = true) := fun k hk h => Pl.all_take h hk
    have HY : Hid ((∀ s ∈ c, Pl.sok s = true) → (Pl.xt Pl.nt c).isSome = decide (Pl.nest t ≤ 40)) := Pl.xt_ok ht
    have HK : Hid (∀ s ∈ c, ∀ (an : Option Addr) (cn : Nat) (w' : World), RdI w'.heap.size w' an s.nums → Calls Tryz.prog 34 #[.agg #[.int .i64 s.k, .slice an s.nums.length cn, .string (Pl.ba s.nm), .int .i64 s.fn.k, .int .i64 s.fn.a, .int .i64 s.fn.b, .string (Pl.ba s.fn.nm)]] w' fun e w2 => e = .returned (.bool (Pl.sok s)) ∧ Below w'.heap.size w' w2) := fun s hs an cn w' hr => by
      rw [Pl.sok_eq]
      exact l3StepOk_any s an cn w' hr (hsm.nums hs) (hsm.nm s hs).1 (hsm.nm s hs).2
    have HT : Hid ((∀ s ∈ c, Pl.sok s = true) → ∀ w', Below w.heap.size w w' → Calls Tryz.prog 20 #[.slice (some ⟨b, off, none⟩) c.length cap, .int .i64 ((c.length : Int) - 1)] w' fun e w2 => e = .returned (.tuple #[.string (Pl.ba (Pl.txt (Pl.ta Pl.nt) Pl.tf t)), .int .i64 (Pl.nest t : Nat)]) ∧ Below w'.heap.size w' w2) := fun hok w' hw => l3Text_any c w.heap.size b off cap hsm.sz hok hb c.length t 0 ht (Nat.le_refl _) w' hw.size (fun i s hi => by
      obtain ⟨an, cn, h⟩ := hc i s hi
      exact ⟨an, cn, h.keep hb hw⟩)
    generalize Pl.ba (Pl.txt (Pl.ta Pl.nt) Pl.tf t) = tx at *
    generalize Pl.nest t = q at *
    clear hc ht hst h0 hsm
    generalize (Pl.xt Pl.nt c).isSome = r at *
    generalize hL : c.length = L at *
    go_enter Tryz.func18, Tryz.ntmps18
    go_wp2_with (go_at_call 33; refine K.out.mono ?_; rintro e w' ⟨rfl, rfl⟩)
    go_loopw [4] (fun v wr => ∃ k : Nat, k ≤ L ∧ v = .int .i64 k ∧ Hid ((c.take k).all Pl.sok = true) ∧ Hid (Below w'.heap.size w' wr)) (fun v _ => L - (intOf v).toNat)
    case atStart => exact ⟨0, Nat.zero_le _, rfl, rfl, Below.refl _ _⟩
    case round =>
      obtain ⟨k, hk, rfl, hall, hbel⟩ := hrel
      by_cases hlt : k < L
      · obtain ⟨s, hs, hm⟩ := HG.out k hlt
        obtain ⟨an, cn, hst⟩ := HC.out k s hs
        obtain ⟨c0, c1, c2, c3, c4, c5, c6, crd⟩ := hst.keep hb hbel.out
        have A := hideP (HA.out k s hs)
        have X := hideP (HX.out s hm)
        have KK := hideP (HK.out s hm an cn wr (crd.up hbel.out.size))
        clear HC HG HX HA HE HY HK HT hs hm hst crd
        generalize Pl.ba s.nm = nm at *
        generalize Pl.ba s.fn.nm = fnm at *
        generalize s.fn.k = fk at *
        generalize s.fn.a = fa at *
        generalize s.fn.b = fb at *
        generalize s.k = kk at *
        generalize s.nums.length = sn at *
        cases hq : Pl.sok s
        · rw [hq] at KK X
          have HR := hideP (X.out rfl)
          clear hq
          go_wp2_with (go_at_call 34; refine KK.out.mono ?_; rintro e w2 ⟨rfl, hb2⟩)
          go_ret
          exact ret_below HR.out (hbel.out.trans (hb2.mono hbel.out.size))
        · rw [hq] at KK A
          have HR := hideP (show (c.take (k + 1)).all Pl.sok = true by rw [A.out, hall.out]; rfl)
          clear hq
          go_wp2_with (go_at_call 34; refine KK.out.mono ?_; rintro e w2 ⟨rfl, hb2⟩)
          go_roundw
          case rel => exact ⟨k + 1, by omega, by go_num, HR.out, hbel.out.trans (hb2.mono hbel.out.size)⟩
          case measure => simp [intOf]; omega
      · obtain rfl : k = L := by omega
        have HO := hideP (HE.out k rfl hall.out)
        have KK := hideP (HT.out HO.out wr hbel.out)
        have HR := hideP (HY.out HO.out)
        clear HC HG HX HA HE HY HK HT
        go_wp2_with (go_at_call 20; refine KK.out.mono ?_; rintro e w2 ⟨rfl, hb2⟩)
        go_ret
        exact ret_below (HR.out.trans (by rw [Bool.eq_iff_iff]; simp only [decide_eq_true_eq]; omega)) (hbel.out.trans (hb2.mono hbel.out.size))
  · have HR := hideP (Pl.xt_no (nt := Pl.nt) hst)
    have hne : (Pl.sta c c.length != 0) = true := by simp [hst]
    clear hc hst h0 hsm
    generalize (Pl.xt Pl.nt c).isSome = r at *
    generalize Pl.sta c c.length = z at *
    generalize c.length = L at *
    go_enter Tryz.func18, Tryz.ntmps18
    go_wp2_with (go_at_call 33; refine K.out.mono ?_; rintro e w' ⟨rfl, rfl⟩)
    go_ret
    exact ret_below HR.out (Below.refl _ _)
/-- spec.l3Whole -/
theorem l3Whole_any (c : List Pl.Sv) (ao : Option Addr) (cap : Nat) (hsm : Pl.Small c) (x : List UInt8) (hx : Pl.xt Pl.nt c = some x) (w : World) (hR : RdS w.heap.size w ao c) :
    Calls Tryz.prog 11 #[.slice ao c.length cap] w fun e w' => e = .returned (.string (Pl.ba x)) ∧ Below w.heap.size w w' := by
  have hlen := hsm.len
  rcases hR with rfl | ⟨b, off, hb, rfl, hc⟩
  · cases hx
  obtain ⟨t, ht, hok, rfl⟩ := Pl.xt_get hx
  have K := hideP (l3Text_any c w.heap.size b off cap hsm.sz hok hb c.length t 0 ht (Nat.le_refl _) w (Nat.le_refl _) hc)
  clear hc ht hx hsm hok
  generalize Pl.ba (Pl.txt (Pl.ta Pl.nt) Pl.tf t) = tx at *
  generalize Pl.nest t = q at *
  generalize c.length = L at *
  go_enter Tryz.func11, Tryz.ntmps11
  go_wp2_with (go_at_call 20; refine K.out.mono ?_; rintro e w' ⟨rfl, hb2⟩)
  go_ret
  exact ⟨rfl, hb2⟩
end Go.Proofs.YtljkolffjjhgeaaGreatDoor
