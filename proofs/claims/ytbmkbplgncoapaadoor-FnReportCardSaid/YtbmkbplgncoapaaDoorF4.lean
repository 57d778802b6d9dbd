import Derived.Test.YtbmkbplgncoapaaDoorF3
namespace Go.Proofs.YtbmkbplgncoapaaDoor
open Go.RowKit
set_option linter.unusedVariables false

theorem rep_size (id : ByteArray) (vs : List Pl.Vt) : (Pl.rep id vs).size ≤ 2000 := by
  cases h : (Pl.idB id && Pl.vsB vs) with
  | false => rw [rep_no h]; decide
  | true =>
    rw [Bool.and_eq_true] at h
    have hrep : Pl.rep id vs = ⟨(Pl.repL id.data.toList vs).toArray⟩ := by unfold Pl.rep; rw [if_pos (by rw [h.1, h.2]; rfl)]
    have ha : Pl.Acc (bl (Pl.rep id vs)) id vs := ⟨h.1, h.2, by rw [hrep]⟩
    have := Pl.acc_len ha
    rw [bl_len] at this
    exact this

theorem five_cell (w : World) (r : Nat) (hr : r ≤ 4) : ∃ z : ByteArray, z.size ≤ 1 ∧ (w.alloc (.cells #[.string ⟨#[]⟩, .string ⟨#[32]⟩, .string ⟨#[10]⟩, .string ⟨#[48]⟩, .string ⟨#[120]⟩] 9)).cell? ⟨w.heap.size, r, none⟩ = some (.string z) := by
  match r, hr with
  | 0, _ => exact ⟨⟨#[]⟩, by decide, by simp [go_sem]⟩
  | 1, _ => exact ⟨⟨#[32]⟩, by decide, by simp [go_sem]⟩
  | 2, _ => exact ⟨⟨#[10]⟩, by decide, by simp [go_sem]⟩
  | 3, _ => exact ⟨⟨#[48]⟩, by decide, by simp [go_sem]⟩
  | 4, _ => exact ⟨⟨#[120]⟩, by decide, by simp [go_sem]⟩

theorem ext_size (s : ByteArray) (a b : Nat) : (s.extract a b).size ≤ s.size := by
  rw [ByteArray.size_extract]; omega

set_option maxRecDepth 100000 in
set_option maxHeartbeats 8000000 in
/-- spec.DrawReadReport -/
theorem drawRead_any (ao : Option Addr) (n0 cap : Nat) (w : World) (hn : n0 ≤ 1048576) (hcap : n0 ≤ cap) (hm : cap ≤ 9223372036854775807) (h : RdB w.heap.size w ao n0) :
    Calls Tryd.prog 38 #[.slice ao n0 cap] w fun e w' => ∃ t : ByteArray, e = .returned (.string t) ∧ t.size ≤ 1048576 ∧ Below w.heap.size w w' := by
  have K0 := hideP (l1Open_any ao n0 cap w hn hcap hm h)
  clear h
  go_enter Tryd.func38, Tryd.ntmps38
  go_wp2_with fail
  refine K0.out.mono ?_
  rintro e w1 ⟨rfl, hr1, hb1⟩
  have B1 := hideP hb1
  have K1 := hideP (next_any w.heap.size w.heap.size w1 hr1)
  clear hr1 hb1 K0
  go_wp2_with fail
  refine K1.out.mono ?_
  rintro e w2 ⟨k, rfl, hk, hr2, hg2⟩
  have B2 := hideP (B1.out.trans (grown_below hg2 (Nat.le_refl _) B1.out.size))
  have K2 := hideP (l6Id_any w.heap.size w.heap.size w2 (Nat.le_trans B1.out.size hg2.size) hr2)
  clear hr2 hg2 K1 B1
  go_wp2_with fail
  refine K2.out.mono ?_
  rintro e w3 ⟨id, rfl, hid, hr3, hb3⟩
  have B3 := hideP (B2.out.trans hb3)
  have K3 := hideP (l6Verdicts_any w.heap.size w.heap.size w3 (B2.out.trans hb3).size hr3)
  clear hr3 hb3 K2 B2
  go_wp2_with fail
  refine K3.out.mono ?_
  rintro e w4 ⟨v, vs, rfl, hl, hrd, hr4, hb4⟩
  have B4 := hideP (B3.out.trans hb4)
  have R4 := hideP hr4
  have K4 := hideP (specReport_any id v vs w4 (by omega) (by omega) hrd)
  clear hr4 hb4 K3 hrd B3
  have HRZ := rep_size id vs
  generalize Pl.rep id vs = s at *
  generalize (Pl.idB id && Pl.vsB vs) = ok at *
  go_wp2_with fail
  refine K4.out.mono ?_
  rintro e w5 ⟨rfl, hb5⟩
  have B5 := hideP (B4.out.trans (hb5.mono B4.out.size))
  have R5 := hideP (R4.out.keep hb5)
  clear hb5 K4 B4 R4
  obtain ⟨n, hsn⟩ : ∃ n, s.size = n := ⟨_, rfl⟩
  rw [hsn] at HRZ
  by_cases h2 : (k : Int) % 3 = 2
  · have h2' : ((k : Int) % 3 == 2) = true := by rw [beq_iff_eq]; exact h2
    have K5 := hideP (next_any w.heap.size w.heap.size w5 R5.out)
    clear h2
    go_wp2_with fail
    refine K5.out.mono ?_
    rintro e w6 ⟨x, rfl, hx, hr6, hg6⟩
    have B6 := hideP (B5.out.trans (grown_below hg6 (Nat.le_refl _) B5.out.size))
    clear hr6 hg6 K5 R5 B5
    obtain ⟨p, hp⟩ : ∃ p : Nat, (x : Int) % ((n : Int) + 1) = (p : Int) := ⟨x % (n + 1), by simp⟩
    have hpn : p ≤ n := by
      have := Int.emod_lt_of_pos (x : Int) (show (0 : Int) < (n : Int) + 1 by omega)
      omega
    obtain ⟨r, hr⟩ : ∃ r : Nat, (k : Int) / 3 % 5 = (r : Int) := ⟨k / 3 % 5, by omega⟩
    have hr4 : r ≤ 4 := by omega
    go_upto_region 6 with fail
    rw [hp]
    have hr5 : (r : Int) < 5 := by omega
    have hpn' : ¬ (n : Int) < (p : Int) := by omega
    have WD : Hid (Below w.heap.size w w6.drew) := B6.out.drew
    have AL : Hid (∀ o, Below w.heap.size w (w6.drew.alloc o)) := fun o => WD.out.alloc WD.out.size _
    obtain ⟨z, hz, cz⟩ := five_cell w6.drew r hr4
    have FINB := hideP (AL.out (.cells #[.string ⟨#[]⟩, .string ⟨#[32]⟩, .string ⟨#[10]⟩, .string ⟨#[48]⟩, .string ⟨#[120]⟩] 9))
    clear hp hx AL WD
    refine wp_region_held (S := fun _ => True) (by kernel_rfl) ?_
    change wpAnyH _ _ _ _ _ _ _ _ (World.drew _)
    generalize World.drew w6 = wn at *
    have e1 := ext_size s 0 p
    by_cases hpl : p < n
    · have hpl' : decide ((p : Int) < (n : Int)) = true := decide_eq_true (by omega)
      have e2 := ext_size s (p + 1) n
      have HZ : Hid ((s.extract 0 p ++ z ++ s.extract (p + 1) n).size ≤ 1048576) := by show _ ≤ _; rw [ByteArray.size_append, ByteArray.size_append]; omega
      have n1 : ¬ 9223372036854775807 < (s.extract 0 p).size + z.size := by omega
      have n2 : ¬ 9223372036854775807 < (s.extract 0 p).size + z.size + (s.extract (p + 1) n).size := by omega
      refine wpAnyH_take (i := 0) (v := .string s) rfl (by kernel_rfl) (by kernel_rfl) (by kernel_rfl) (fun _ _ _ h => h) (Or.inl ⟨by rfl, ?_⟩) trivial ?_
      · intro w' hS
        clear hS
        go_simp
      refine wpAnyH_take (i := 1) (v := .int .i64 (p : Int)) rfl (by kernel_rfl) (by kernel_rfl) (by kernel_rfl) (fun _ _ _ h => h) (Or.inl ⟨by rfl, ?_⟩) trivial ?_
      · intro w' hS
        clear hS
        go_simp
      refine wpAnyH_take (i := 2) (v := .string (s.extract 0 p)) rfl (by kernel_rfl) (by kernel_rfl) (by kernel_rfl) (fun _ _ _ h => h) (Or.inl ⟨by rfl, ?_⟩) trivial ?_
      · intro w' hS
        clear hS
        go_simp
      refine wpAnyH_take (i := 4) (v := .int .i64 (k : Int)) rfl (by kernel_rfl) (by kernel_rfl) (by kernel_rfl) (fun _ _ _ h => h) (Or.inl ⟨by rfl, ?_⟩) trivial ?_
      · intro w' hS
        clear hS
        go_simp
      refine wpAnyH_take (i := 5) (v := .int .i64 ((k : Int) / 3)) rfl (by kernel_rfl) (by kernel_rfl) (by kernel_rfl) (fun _ _ _ h => h) (Or.inl ⟨by rfl, ?_⟩) trivial ?_
      · intro w' hS
        clear hS
        go_simp
        rw [IntKind.wrap_i64]
        omega
      refine wpAnyH_take (i := 6) (v := .int .i64 (r : Int)) rfl (by kernel_rfl) (by kernel_rfl) (by kernel_rfl) (fun _ _ _ h => h) (Or.inl ⟨by rfl, ?_⟩) trivial ?_
      · intro w' hS
        clear hS
        go_simp
        rw [Int.tmod_eq_emod_of_nonneg (by omega)]
        omega
      refine wpAnyH_take (i := 10) (v := .string s) rfl (by kernel_rfl) (by kernel_rfl) (by kernel_rfl) (fun _ _ _ h => h) (Or.inl ⟨by rfl, ?_⟩) trivial ?_
      · intro w' hS
        clear hS
        go_simp
      refine wpAnyH_take (i := 11) (v := .int .i64 (p : Int)) rfl (by kernel_rfl) (by kernel_rfl) (by kernel_rfl) (fun _ _ _ h => h) (Or.inl ⟨by rfl, ?_⟩) trivial ?_
      · intro w' hS
        clear hS
        go_simp
      refine wpAnyH_take (i := 12) (v := .string s) rfl (by kernel_rfl) (by kernel_rfl) (by kernel_rfl) (fun _ _ _ h => h) (Or.inl ⟨by rfl, ?_⟩) trivial ?_
      · intro w' hS
        clear hS
        go_simp
      refine wpAnyH_take (i := 13) (v := .int .i64 (n : Int)) rfl (by kernel_rfl) (by kernel_rfl) (by kernel_rfl) (fun _ _ _ h => h) (Or.inl ⟨by rfl, ?_⟩) trivial ?_
      · intro w' hS
        clear hS
        go_simp
      refine wpAnyH_take (i := 14) (v := .int .i64 (p : Int)) rfl (by kernel_rfl) (by kernel_rfl) (by kernel_rfl) (fun _ _ _ h => h) (Or.inl ⟨by rfl, ?_⟩) trivial ?_
      · intro w' hS
        clear hS
        go_simp
      refine wpAnyH_take (i := 15) (v := .int .i64 ((n : Int) - (p : Int))) rfl (by kernel_rfl) (by kernel_rfl) (by kernel_rfl) (fun _ _ _ h => h) (Or.inl ⟨by rfl, ?_⟩) trivial ?_
      · intro w' hS
        clear hS
        go_simp
        rw [IntKind.wrap_i64]
        omega
      refine wpAnyH_take (i := 16) (v := .int .i64 0) rfl (by kernel_rfl) (by kernel_rfl) (by kernel_rfl) (fun _ _ _ h => h) (Or.inl ⟨by rfl, ?_⟩) trivial ?_
      · intro w' hS
        clear hS
        go_simp
        rw [IntKind.wrap_i64]
        omega
      refine wpAnyH_take (i := 17) (v := .int .i64 (p : Int)) rfl (by kernel_rfl) (by kernel_rfl) (by kernel_rfl) (fun _ _ _ h => h) (Or.inl ⟨by rfl, ?_⟩) trivial ?_
      · intro w' hS
        clear hS
        go_simp
        rw [IntKind.wrap_i64]
        omega
      refine wpAnyH_take (i := 18) (v := .int .i64 (p : Int)) rfl (by kernel_rfl) (by kernel_rfl) (by kernel_rfl) (fun _ _ _ h => h) (Or.inl ⟨by rfl, ?_⟩) trivial ?_
      · intro w' hS
        clear hS
        go_simp
      refine wpAnyH_take (i := 19) (v := .string s) rfl (by kernel_rfl) (by kernel_rfl) (by kernel_rfl) (fun _ _ _ h => h) (Or.inl ⟨by rfl, ?_⟩) trivial ?_
      · intro w' hS
        clear hS
        go_simp
      refine wpAnyH_take (i := 20) (v := .int .i64 (n : Int)) rfl (by kernel_rfl) (by kernel_rfl) (by kernel_rfl) (fun _ _ _ h => h) (Or.inl ⟨by rfl, ?_⟩) trivial ?_
      · intro w' hS
        clear hS
        go_simp
      refine wpAnyH_take (i := 21) (v := .bool true) rfl (by kernel_rfl) (by kernel_rfl) (by kernel_rfl) (fun _ _ _ h => h) (Or.inl ⟨by rfl, ?_⟩) trivial ?_
      · intro w' hS
        clear hS
        go_simp
      refine wpAnyH_ready (rs := [3, 22]) (by kernel_rfl) (by simp) ?_
      refine AllReadyH.cons rfl (fun K hK => ?_) (AllReadyH.cons rfl (fun K hK => ?_) AllReadyH.nil)
      · go_simp
        refine hK.out _ _ trivial (fun _ => ?_)
        clear hK
        refine wpAnyH_take (i := 7) (v := .pointer (some ⟨wn.heap.size, r, none⟩)) rfl (by kernel_rfl) (by kernel_rfl) (by kernel_rfl) (fun _ _ _ h => h) (Or.inl ⟨by rfl, ?_⟩) trivial ?_
        · intro w' hS
          clear hS
          go_simp
        refine wpAnyH_ready (rs := [8, 22]) (by kernel_rfl) (by simp) ?_
        refine AllReadyH.cons rfl (fun K hK => ?_) (AllReadyH.cons rfl (fun K hK => ?_) AllReadyH.nil)
        · go_simp
          refine hK.out _ _ trivial (fun _ => ?_)
          clear hK
          refine wpAnyH_take (i := 9) (v := .string (s.extract 0 p ++ z)) rfl (by kernel_rfl) (by kernel_rfl) (by kernel_rfl) (fun _ _ _ h => h) (Or.inl ⟨by rfl, ?_⟩) trivial ?_
          · intro w' hS
            clear hS
            go_simp
            omega
          refine wpAnyH_ready (rs := [22]) (by kernel_rfl) (by simp) ?_
          refine AllReadyH.cons rfl (fun K hK => ?_) AllReadyH.nil
          go_simp
          refine (l2Bool_any true _).mono ?_
          rintro e wn ⟨rfl, rfl⟩
          refine hK.out _ _ trivial (fun _ => ?_)
          clear hK
          refine wpAnyH_take (i := 23) (v := .int .i64 ((p : Int) + 1)) rfl (by kernel_rfl) (by kernel_rfl) (by kernel_rfl) (fun _ _ _ h => h) (Or.inl ⟨by rfl, ?_⟩) trivial ?_
          · intro w' hS
            clear hS
            go_simp
            rw [IntKind.wrap_i64]
            omega
          refine wpAnyH_take (i := 24) (v := .string (s.extract (p + 1) n)) rfl (by kernel_rfl) (by kernel_rfl) (by kernel_rfl) (fun _ _ _ h => h) (Or.inl ⟨by rfl, ?_⟩) trivial ?_
          · intro w' hS
            clear hS
            go_simp
            intro hbad
            exfalso
            have := hbad (by omega)
            omega
          refine wpAnyH_take (i := 25) (v := .string (s.extract 0 p ++ z ++ s.extract (p + 1) n)) rfl (by kernel_rfl) (by kernel_rfl) (by kernel_rfl) (fun _ _ _ h => h) (Or.inl ⟨by rfl, ?_⟩) trivial ?_
          · intro w' hS
            clear hS
            go_simp
            omega
          refine wpAnyH_ready (rs := [26]) (by kernel_rfl) (by simp) ?_
          refine AllReadyH.cons rfl (fun K hK => ?_) AllReadyH.nil
          go_simp
          refine hK.out _ _ trivial (fun _ => ?_)
          clear hK
          refine wpAnyH_done (by kernel_rfl) ?_ _
          go_wp2_with fail
          go_ret
          exact ⟨_, rfl, HZ.out, FINB.out⟩
        · go_simp
          refine (l2Bool_any true _).mono ?_
          rintro e wn ⟨rfl, rfl⟩
          refine hK.out _ _ trivial (fun _ => ?_)
          clear hK
          refine wpAnyH_take (i := 23) (v := .int .i64 ((p : Int) + 1)) rfl (by kernel_rfl) (by kernel_rfl) (by kernel_rfl) (fun _ _ _ h => h) (Or.inl ⟨by rfl, ?_⟩) trivial ?_
          · intro w' hS
            clear hS
            go_simp
            rw [IntKind.wrap_i64]
            omega
          refine wpAnyH_take (i := 24) (v := .string (s.extract (p + 1) n)) rfl (by kernel_rfl) (by kernel_rfl) (by kernel_rfl) (fun _ _ _ h => h) (Or.inl ⟨by rfl, ?_⟩) trivial ?_
          · intro w' hS
            clear hS
            go_simp
            intro hbad
            exfalso
            have := hbad (by omega)
            omega
          refine wpAnyH_ready (rs := [8]) (by kernel_rfl) (by simp) ?_
          refine AllReadyH.cons rfl (fun K hK => ?_) AllReadyH.nil
          go_simp
          refine hK.out _ _ trivial (fun _ => ?_)
          clear hK
          refine wpAnyH_take (i := 9) (v := .string (s.extract 0 p ++ z)) rfl (by kernel_rfl) (by kernel_rfl) (by kernel_rfl) (fun _ _ _ h => h) (Or.inl ⟨by rfl, ?_⟩) trivial ?_
          · intro w' hS
            clear hS
            go_simp
            omega
          refine wpAnyH_take (i := 25) (v := .string (s.extract 0 p ++ z ++ s.extract (p + 1) n)) rfl (by kernel_rfl) (by kernel_rfl) (by kernel_rfl) (fun _ _ _ h => h) (Or.inl ⟨by rfl, ?_⟩) trivial ?_
          · intro w' hS
            clear hS
            go_simp
            omega
          refine wpAnyH_ready (rs := [26]) (by kernel_rfl) (by simp) ?_
          refine AllReadyH.cons rfl (fun K hK => ?_) AllReadyH.nil
          go_simp
          refine hK.out _ _ trivial (fun _ => ?_)
          clear hK
          refine wpAnyH_done (by kernel_rfl) ?_ _
          go_wp2_with fail
          go_ret
          exact ⟨_, rfl, HZ.out, FINB.out⟩
      · go_simp
        refine (l2Bool_any true _).mono ?_
        rintro e wn ⟨rfl, rfl⟩
        refine hK.out _ _ trivial (fun _ => ?_)
        clear hK
        refine wpAnyH_take (i := 23) (v := .int .i64 ((p : Int) + 1)) rfl (by kernel_rfl) (by kernel_rfl) (by kernel_rfl) (fun _ _ _ h => h) (Or.inl ⟨by rfl, ?_⟩) trivial ?_
        · intro w' hS
          clear hS
          go_simp
          rw [IntKind.wrap_i64]
          omega
        refine wpAnyH_take (i := 24) (v := .string (s.extract (p + 1) n)) rfl (by kernel_rfl) (by kernel_rfl) (by kernel_rfl) (fun _ _ _ h => h) (Or.inl ⟨by rfl, ?_⟩) trivial ?_
        · intro w' hS
          clear hS
          go_simp
          intro hbad
          exfalso
          have := hbad (by omega)
          omega
        refine wpAnyH_ready (rs := [3]) (by kernel_rfl) (by simp) ?_
        refine AllReadyH.cons rfl (fun K hK => ?_) AllReadyH.nil
        go_simp
        refine hK.out _ _ trivial (fun _ => ?_)
        clear hK
        refine wpAnyH_take (i := 7) (v := .pointer (some ⟨wn.heap.size, r, none⟩)) rfl (by kernel_rfl) (by kernel_rfl) (by kernel_rfl) (fun _ _ _ h => h) (Or.inl ⟨by rfl, ?_⟩) trivial ?_
        · intro w' hS
          clear hS
          go_simp
        refine wpAnyH_ready (rs := [8]) (by kernel_rfl) (by simp) ?_
        refine AllReadyH.cons rfl (fun K hK => ?_) AllReadyH.nil
        go_simp
        refine hK.out _ _ trivial (fun _ => ?_)
        clear hK
        refine wpAnyH_take (i := 9) (v := .string (s.extract 0 p ++ z)) rfl (by kernel_rfl) (by kernel_rfl) (by kernel_rfl) (fun _ _ _ h => h) (Or.inl ⟨by rfl, ?_⟩) trivial ?_
        · intro w' hS
          clear hS
          go_simp
          omega
        refine wpAnyH_take (i := 25) (v := .string (s.extract 0 p ++ z ++ s.extract (p + 1) n)) rfl (by kernel_rfl) (by kernel_rfl) (by kernel_rfl) (fun _ _ _ h => h) (Or.inl ⟨by rfl, ?_⟩) trivial ?_
        · intro w' hS
          clear hS
          go_simp
          omega
        refine wpAnyH_ready (rs := [26]) (by kernel_rfl) (by simp) ?_
        refine AllReadyH.cons rfl (fun K hK => ?_) AllReadyH.nil
        go_simp
        refine hK.out _ _ trivial (fun _ => ?_)
        clear hK
        refine wpAnyH_done (by kernel_rfl) ?_ _
        go_wp2_with fail
        go_ret
        exact ⟨_, rfl, HZ.out, FINB.out⟩
    · have hpl' : decide ((p : Int) < (n : Int)) = false := decide_eq_false (by omega)
      have e2 := ext_size s p n
      have HZ : Hid ((s.extract 0 p ++ z ++ s.extract p n).size ≤ 1048576) := by show _ ≤ _; rw [ByteArray.size_append, ByteArray.size_append]; omega
      have n1 : ¬ 9223372036854775807 < (s.extract 0 p).size + z.size := by omega
      have n2 : ¬ 9223372036854775807 < (s.extract 0 p).size + z.size + (s.extract p n).size := by omega
      refine wpAnyH_take (i := 0) (v := .string s) rfl (by kernel_rfl) (by kernel_rfl) (by kernel_rfl) (fun _ _ _ h => h) (Or.inl ⟨by rfl, ?_⟩) trivial ?_
      · intro w' hS
        clear hS
        go_simp
      refine wpAnyH_take (i := 1) (v := .int .i64 (p : Int)) rfl (by kernel_rfl) (by kernel_rfl) (by kernel_rfl) (fun _ _ _ h => h) (Or.inl ⟨by rfl, ?_⟩) trivial ?_
      · intro w' hS
        clear hS
        go_simp
      refine wpAnyH_take (i := 2) (v := .string (s.extract 0 p)) rfl (by kernel_rfl) (by kernel_rfl) (by kernel_rfl) (fun _ _ _ h => h) (Or.inl ⟨by rfl, ?_⟩) trivial ?_
      · intro w' hS
        clear hS
        go_simp
      refine wpAnyH_take (i := 4) (v := .int .i64 (k : Int)) rfl (by kernel_rfl) (by kernel_rfl) (by kernel_rfl) (fun _ _ _ h => h) (Or.inl ⟨by rfl, ?_⟩) trivial ?_
      · intro w' hS
        clear hS
        go_simp
      refine wpAnyH_take (i := 5) (v := .int .i64 ((k : Int) / 3)) rfl (by kernel_rfl) (by kernel_rfl) (by kernel_rfl) (fun _ _ _ h => h) (Or.inl ⟨by rfl, ?_⟩) trivial ?_
      · intro w' hS
        clear hS
        go_simp
        rw [IntKind.wrap_i64]
        omega
      refine wpAnyH_take (i := 6) (v := .int .i64 (r : Int)) rfl (by kernel_rfl) (by kernel_rfl) (by kernel_rfl) (fun _ _ _ h => h) (Or.inl ⟨by rfl, ?_⟩) trivial ?_
      · intro w' hS
        clear hS
        go_simp
        rw [Int.tmod_eq_emod_of_nonneg (by omega)]
        omega
      refine wpAnyH_take (i := 10) (v := .string s) rfl (by kernel_rfl) (by kernel_rfl) (by kernel_rfl) (fun _ _ _ h => h) (Or.inl ⟨by rfl, ?_⟩) trivial ?_
      · intro w' hS
        clear hS
        go_simp
      refine wpAnyH_take (i := 11) (v := .int .i64 (p : Int)) rfl (by kernel_rfl) (by kernel_rfl) (by kernel_rfl) (fun _ _ _ h => h) (Or.inl ⟨by rfl, ?_⟩) trivial ?_
      · intro w' hS
        clear hS
        go_simp
      refine wpAnyH_take (i := 12) (v := .string s) rfl (by kernel_rfl) (by kernel_rfl) (by kernel_rfl) (fun _ _ _ h => h) (Or.inl ⟨by rfl, ?_⟩) trivial ?_
      · intro w' hS
        clear hS
        go_simp
      refine wpAnyH_take (i := 13) (v := .int .i64 (n : Int)) rfl (by kernel_rfl) (by kernel_rfl) (by kernel_rfl) (fun _ _ _ h => h) (Or.inl ⟨by rfl, ?_⟩) trivial ?_
      · intro w' hS
        clear hS
        go_simp
      refine wpAnyH_take (i := 14) (v := .int .i64 (p : Int)) rfl (by kernel_rfl) (by kernel_rfl) (by kernel_rfl) (fun _ _ _ h => h) (Or.inl ⟨by rfl, ?_⟩) trivial ?_
      · intro w' hS
        clear hS
        go_simp
      refine wpAnyH_take (i := 15) (v := .int .i64 ((n : Int) - (p : Int))) rfl (by kernel_rfl) (by kernel_rfl) (by kernel_rfl) (fun _ _ _ h => h) (Or.inl ⟨by rfl, ?_⟩) trivial ?_
      · intro w' hS
        clear hS
        go_simp
        rw [IntKind.wrap_i64]
        omega
      refine wpAnyH_take (i := 16) (v := .int .i64 0) rfl (by kernel_rfl) (by kernel_rfl) (by kernel_rfl) (fun _ _ _ h => h) (Or.inl ⟨by rfl, ?_⟩) trivial ?_
      · intro w' hS
        clear hS
        go_simp
        rw [IntKind.wrap_i64]
        omega
      refine wpAnyH_take (i := 17) (v := .int .i64 (p : Int)) rfl (by kernel_rfl) (by kernel_rfl) (by kernel_rfl) (fun _ _ _ h => h) (Or.inl ⟨by rfl, ?_⟩) trivial ?_
      · intro w' hS
        clear hS
        go_simp
        rw [IntKind.wrap_i64]
        omega
      refine wpAnyH_take (i := 18) (v := .int .i64 (p : Int)) rfl (by kernel_rfl) (by kernel_rfl) (by kernel_rfl) (fun _ _ _ h => h) (Or.inl ⟨by rfl, ?_⟩) trivial ?_
      · intro w' hS
        clear hS
        go_simp
      refine wpAnyH_take (i := 19) (v := .string s) rfl (by kernel_rfl) (by kernel_rfl) (by kernel_rfl) (fun _ _ _ h => h) (Or.inl ⟨by rfl, ?_⟩) trivial ?_
      · intro w' hS
        clear hS
        go_simp
      refine wpAnyH_take (i := 20) (v := .int .i64 (n : Int)) rfl (by kernel_rfl) (by kernel_rfl) (by kernel_rfl) (fun _ _ _ h => h) (Or.inl ⟨by rfl, ?_⟩) trivial ?_
      · intro w' hS
        clear hS
        go_simp
      refine wpAnyH_take (i := 21) (v := .bool false) rfl (by kernel_rfl) (by kernel_rfl) (by kernel_rfl) (fun _ _ _ h => h) (Or.inl ⟨by rfl, ?_⟩) trivial ?_
      · intro w' hS
        clear hS
        go_simp
      refine wpAnyH_ready (rs := [3, 22]) (by kernel_rfl) (by simp) ?_
      refine AllReadyH.cons rfl (fun K hK => ?_) (AllReadyH.cons rfl (fun K hK => ?_) AllReadyH.nil)
      · go_simp
        refine hK.out _ _ trivial (fun _ => ?_)
        clear hK
        refine wpAnyH_take (i := 7) (v := .pointer (some ⟨wn.heap.size, r, none⟩)) rfl (by kernel_rfl) (by kernel_rfl) (by kernel_rfl) (fun _ _ _ h => h) (Or.inl ⟨by rfl, ?_⟩) trivial ?_
        · intro w' hS
          clear hS
          go_simp
        refine wpAnyH_ready (rs := [8, 22]) (by kernel_rfl) (by simp) ?_
        refine AllReadyH.cons rfl (fun K hK => ?_) (AllReadyH.cons rfl (fun K hK => ?_) AllReadyH.nil)
        · go_simp
          refine hK.out _ _ trivial (fun _ => ?_)
          clear hK
          refine wpAnyH_take (i := 9) (v := .string (s.extract 0 p ++ z)) rfl (by kernel_rfl) (by kernel_rfl) (by kernel_rfl) (fun _ _ _ h => h) (Or.inl ⟨by rfl, ?_⟩) trivial ?_
          · intro w' hS
            clear hS
            go_simp
            omega
          refine wpAnyH_ready (rs := [22]) (by kernel_rfl) (by simp) ?_
          refine AllReadyH.cons rfl (fun K hK => ?_) AllReadyH.nil
          go_simp
          refine (l2Bool_any false _).mono ?_
          rintro e wn ⟨rfl, rfl⟩
          refine hK.out _ _ trivial (fun _ => ?_)
          clear hK
          refine wpAnyH_take (i := 23) (v := .int .i64 (p : Int)) rfl (by kernel_rfl) (by kernel_rfl) (by kernel_rfl) (fun _ _ _ h => h) (Or.inl ⟨by rfl, ?_⟩) trivial ?_
          · intro w' hS
            clear hS
            go_simp
            rw [IntKind.wrap_i64]
            omega
          refine wpAnyH_take (i := 24) (v := .string (s.extract p n)) rfl (by kernel_rfl) (by kernel_rfl) (by kernel_rfl) (fun _ _ _ h => h) (Or.inl ⟨by rfl, ?_⟩) trivial ?_
          · intro w' hS
            clear hS
            go_simp
          refine wpAnyH_take (i := 25) (v := .string (s.extract 0 p ++ z ++ s.extract p n)) rfl (by kernel_rfl) (by kernel_rfl) (by kernel_rfl) (fun _ _ _ h => h) (Or.inl ⟨by rfl, ?_⟩) trivial ?_
          · intro w' hS
            clear hS
            go_simp
            omega
          refine wpAnyH_ready (rs := [26]) (by kernel_rfl) (by simp) ?_
          refine AllReadyH.cons rfl (fun K hK => ?_) AllReadyH.nil
          go_simp
          refine hK.out _ _ trivial (fun _ => ?_)
          clear hK
          refine wpAnyH_done (by kernel_rfl) ?_ _
          go_wp2_with fail
          go_ret
          exact ⟨_, rfl, HZ.out, FINB.out⟩
        · go_simp
          refine (l2Bool_any false _).mono ?_
          rintro e wn ⟨rfl, rfl⟩
          refine hK.out _ _ trivial (fun _ => ?_)
          clear hK
          refine wpAnyH_take (i := 23) (v := .int .i64 (p : Int)) rfl (by kernel_rfl) (by kernel_rfl) (by kernel_rfl) (fun _ _ _ h => h) (Or.inl ⟨by rfl, ?_⟩) trivial ?_
          · intro w' hS
            clear hS
            go_simp
            rw [IntKind.wrap_i64]
            omega
          refine wpAnyH_take (i := 24) (v := .string (s.extract p n)) rfl (by kernel_rfl) (by kernel_rfl) (by kernel_rfl) (fun _ _ _ h => h) (Or.inl ⟨by rfl, ?_⟩) trivial ?_
          · intro w' hS
            clear hS
            go_simp
          refine wpAnyH_ready (rs := [8]) (by kernel_rfl) (by simp) ?_
          refine AllReadyH.cons rfl (fun K hK => ?_) AllReadyH.nil
          go_simp
          refine hK.out _ _ trivial (fun _ => ?_)
          clear hK
          refine wpAnyH_take (i := 9) (v := .string (s.extract 0 p ++ z)) rfl (by kernel_rfl) (by kernel_rfl) (by kernel_rfl) (fun _ _ _ h => h) (Or.inl ⟨by rfl, ?_⟩) trivial ?_
          · intro w' hS
            clear hS
            go_simp
            omega
          refine wpAnyH_take (i := 25) (v := .string (s.extract 0 p ++ z ++ s.extract p n)) rfl (by kernel_rfl) (by kernel_rfl) (by kernel_rfl) (fun _ _ _ h => h) (Or.inl ⟨by rfl, ?_⟩) trivial ?_
          · intro w' hS
            clear hS
            go_simp
            omega
          refine wpAnyH_ready (rs := [26]) (by kernel_rfl) (by simp) ?_
          refine AllReadyH.cons rfl (fun K hK => ?_) AllReadyH.nil
          go_simp
          refine hK.out _ _ trivial (fun _ => ?_)
          clear hK
          refine wpAnyH_done (by kernel_rfl) ?_ _
          go_wp2_with fail
          go_ret
          exact ⟨_, rfl, HZ.out, FINB.out⟩
      · go_simp
        refine (l2Bool_any false _).mono ?_
        rintro e wn ⟨rfl, rfl⟩
        refine hK.out _ _ trivial (fun _ => ?_)
        clear hK
        refine wpAnyH_take (i := 23) (v := .int .i64 (p : Int)) rfl (by kernel_rfl) (by kernel_rfl) (by kernel_rfl) (fun _ _ _ h => h) (Or.inl ⟨by rfl, ?_⟩) trivial ?_
        · intro w' hS
          clear hS
          go_simp
          rw [IntKind.wrap_i64]
          omega
        refine wpAnyH_take (i := 24) (v := .string (s.extract p n)) rfl (by kernel_rfl) (by kernel_rfl) (by kernel_rfl) (fun _ _ _ h => h) (Or.inl ⟨by rfl, ?_⟩) trivial ?_
        · intro w' hS
          clear hS
          go_simp
        refine wpAnyH_ready (rs := [3]) (by kernel_rfl) (by simp) ?_
        refine AllReadyH.cons rfl (fun K hK => ?_) AllReadyH.nil
        go_simp
        refine hK.out _ _ trivial (fun _ => ?_)
        clear hK
        refine wpAnyH_take (i := 7) (v := .pointer (some ⟨wn.heap.size, r, none⟩)) rfl (by kernel_rfl) (by kernel_rfl) (by kernel_rfl) (fun _ _ _ h => h) (Or.inl ⟨by rfl, ?_⟩) trivial ?_
        · intro w' hS
          clear hS
          go_simp
        refine wpAnyH_ready (rs := [8]) (by kernel_rfl) (by simp) ?_
        refine AllReadyH.cons rfl (fun K hK => ?_) AllReadyH.nil
        go_simp
        refine hK.out _ _ trivial (fun _ => ?_)
        clear hK
        refine wpAnyH_take (i := 9) (v := .string (s.extract 0 p ++ z)) rfl (by kernel_rfl) (by kernel_rfl) (by kernel_rfl) (fun _ _ _ h => h) (Or.inl ⟨by rfl, ?_⟩) trivial ?_
        · intro w' hS
          clear hS
          go_simp
          omega
        refine wpAnyH_take (i := 25) (v := .string (s.extract 0 p ++ z ++ s.extract p n)) rfl (by kernel_rfl) (by kernel_rfl) (by kernel_rfl) (fun _ _ _ h => h) (Or.inl ⟨by rfl, ?_⟩) trivial ?_
        · intro w' hS
          clear hS
          go_simp
          omega
        refine wpAnyH_ready (rs := [26]) (by kernel_rfl) (by simp) ?_
        refine AllReadyH.cons rfl (fun K hK => ?_) AllReadyH.nil
        go_simp
        refine hK.out _ _ trivial (fun _ => ?_)
        clear hK
        refine wpAnyH_done (by kernel_rfl) ?_ _
        go_wp2_with fail
        go_ret
        exact ⟨_, rfl, HZ.out, FINB.out⟩
  · have h2' : ((k : Int) % 3 == 2) = false := by rw [beq_eq_false_iff_ne]; exact h2
    go_wp2_with fail
    go_ret
    exact ⟨_, rfl, by omega, B5.out⟩

end Go.Proofs.YtbmkbplgncoapaaDoor
