import Derived.Test.YtmobjomebmipdaaFl5
namespace Go.Proofs.Ytmobjomebmipdaa
open Go.RowKit
set_option linter.unusedVariables false

set_option maxRecDepth 100000 in
set_option maxHeartbeats 4000000 in
theorem strides_nil (ao : Option Addr) (cap : Nat) (w : World) :
    Calls Try.prog 143 #[.slice ao 0 cap] w fun e w' => e = .returned (.slice (some ⟨w.heap.size, 0, none⟩) 0 0) ∧ Below w.heap.size w w' := by
  obtain ⟨i0, hi, hz0, hz1, hz2⟩ := info_parts Try.info3
  have HI := hideP (And.intro hi (And.intro hz0 (And.intro hz1 hz2)))
  clear hi hz0 hz1 hz2
  go_enter Try.func143, Try.ntmps143
  go_wp2_with (at_make; refine wpList_make_full _ rfl _ _ 22 rfl w.heap.size 3 i0 (.int .i64 0) 1 Try.underlying22 HI.out.1 HI.out.2.1 HI.out.2.2.1 _ _ _ _ 0 rfl rfl rfl rfl ?b2 ?b3 ?b4 ?_)
  case b2 => rw [HI.out.2.2.2]; omega
  case b3 => unfold maxLen; omega
  case b4 => exact Nat.le_refl _
  intro w1 hown hgrow
  have B1 : Hid (Below w.heap.size w w1) := (Below.refl _ _).grown hgrow (Nat.le_refl _) (by intro k h; cases h)
  clear hown hgrow
  go_wp2_with fail
  go_loopw [4, 10] (fun _ i wr => i = .int .i64 0 ∧ wr = w1) (fun _ _ _ => 0)
  case atStart => exact ⟨rfl, rfl⟩
  case round =>
    obtain ⟨rfl, rfl⟩ := hrel
    go_wp2_with fail
    go_ret
    exact ⟨rfl, B1.out⟩

set_option maxRecDepth 100000 in
set_option maxHeartbeats 16000000 in
/-- impl.flip, of a scalar -/
theorem flip_zero (b0 o0 c0 b1 o1 c1 : Nat) (x : Int) (w : World) (h1 : Rd w.heap.size w (.slice (some ⟨b1, o1, none⟩) 1 c1) [x]) :
    Calls Try.prog 115 #[.agg #[.slice (some ⟨b0, o0, none⟩) 0 c0, .slice (some ⟨b1, o1, none⟩) 1 c1]] w (KPost w 0 [] [x]) := by
  obtain ⟨wb, hwb⟩ : ∃ wb, wb = (w.alloc (.cells #[.slice (some ⟨b0, o0, none⟩) 0 c0, .slice (some ⟨b1, o1, none⟩) 1 c1] 27)).alloc (.cells #[.slice none 0 0, .slice none 0 0] 27) := ⟨_, rfl⟩
  have WS : wb.heap.size = w.heap.size + 1 + 1 := by rw [hwb]; simp
  have PB : Hid (∀ W, Below wb.heap.size wb W → (W.cell? ⟨w.heap.size, 0, none⟩ = some (.slice (some ⟨b0, o0, none⟩) 0 c0) ∧ W.cell? ⟨w.heap.size, 1, none⟩ = some (.slice (some ⟨b1, o1, none⟩) 1 c1)) ∧ (W.cell? ⟨w.heap.size + 1, 0, none⟩ = some (.slice none 0 0) ∧ W.cell? ⟨w.heap.size + 1, 1, none⟩ = some (.slice none 0 0) ∧ ∀ o, W.frozen? ⟨w.heap.size + 1, o, none⟩ = false) ∧ Below w.heap.size w W) := fun W hb => by
    subst hwb
    exact boxes2 (hb.mono (by simp))
  have HC : Hid (b1 < w.heap.size ∧ w.cell? ⟨b1, o1, none⟩ = some (.int .i64 x)) := by
    have := rd_cell (zs := [x]) h1 (i := 0) (by simp)
    exact this
  have KJ : Hid (∀ b W, Below wb.heap.size wb W → b < W.heap.size → W.cell? ⟨b, 0, none⟩ = some (.slice (some ⟨b0, o0, none⟩) 0 c0) → Calls Try.prog 84 #[.slice (some ⟨b, 0, none⟩) 1 1] W fun e w' => ∃ ao cap, e = .returned (.slice ao 0 cap) ∧ Below W.heap.size W w') := fun b W hb hlt hcc => by
    refine (joined1_own b _ [] W (by simp) hlt hcc ⟨_, _, rfl, .inl rfl⟩).mono ?_
    rintro e w' ⟨ao, cap, rfl, _, hb'⟩
    exact ⟨ao, cap, rfl, hb'⟩
  obtain ⟨i0, hi, hz0, hz1, hz2⟩ := info_parts Try.info3
  have HI := hideP (And.intro hi (And.intro hz0 (And.intro hz1 hz2)))
  clear hi hz0 hz1 hz2 h1
  have B0 : Hid (Below wb.heap.size wb (wb.alloc (.cells #[.slice (some ⟨b0, o0, none⟩) 0 c0] 22))) := (Below.refl _ _).alloc (Nat.le_refl _) _
  have KJ' := hideP (KJ.out wb.heap.size (wb.alloc (.cells #[.slice (some ⟨b0, o0, none⟩) 0 c0] 22)) B0.out (lit_cell wb _ 22).1 (lit_cell wb _ 22).2)
  go_enter Try.func115, Try.ntmps115
  go_wp2_with fail
  go_step3
  go_wp2_with fail
  rw [← hwb, ← WS]
  refine KJ'.out.mono ?_
  rintro e w3 ⟨a3, cap3, rfl, hb3⟩
  have B3 := hideP (B0.out.trans (hb3.mono (by simp)))
  clear hb3 KJ KJ' B0
  go_wp2_with fail
  refine (reverse_nil a3 cap3 w3).mono ?_
  rintro e w3 ⟨rfl, rfl⟩
  have c00 := (PB.out _ B3.out).1.1
  go_wp2_with fail
  refine (strides_nil _ _ w3).mono ?_
  rintro e w5 ⟨rfl, hb5⟩
  have B5 := hideP (B3.out.trans (hb5.mono B3.out.size))
  clear hb5 c00
  go_wp2_with (at_make; refine wpList_make_full _ rfl _ _ 22 rfl w5.heap.size 3 i0 (.int .i64 0) 1 Try.underlying22 HI.out.1 HI.out.2.1 HI.out.2.2.1 _ _ _ _ 0 rfl rfl rfl rfl ?b2 ?b3 ?b4 ?_)
  case b2 => rw [HI.out.2.2.2]; omega
  case b3 => unfold maxLen; omega
  case b4 => exact Nat.le_refl _
  intro w6 hown hgrow
  have BG6 : Hid (Below w5.heap.size w5 w6) := (Below.refl _ _).grown hgrow (Nat.le_refl _) (by intro k h; cases h)
  have B6 := hideP (B5.out.trans (BG6.out.mono B5.out.size))
  have c01 := (PB.out _ B6.out).1.2
  clear hown hgrow BG6 B5
  go_wp2_with (at_make; refine wpList_make_full _ rfl _ _ 22 rfl w6.heap.size 3 i0 (.int .i64 0) 1 Try.underlying22 HI.out.1 HI.out.2.1 HI.out.2.2.1 _ _ _ _ 1 rfl rfl rfl rfl ?e2 ?e3 ?e4 ?_)
  case e2 => rw [HI.out.2.2.2]; omega
  case e3 => unfold maxLen; omega
  case e4 => exact Nat.le_refl _
  intro w7 hown hgrow
  rw [made_zeros] at hown
  have BG7 : Hid (Below w6.heap.size w6 w7) := (Below.refl _ _).grown hgrow (Nat.le_refl _) (by intro k h; cases h)
  have R7 : Hid (Rw w6.heap.size 0 1 (fun _ => 0) w7) := by
    have h1 : w7.ownsRow w6.heap.size 3 1 (.slice (some ⟨w6.heap.size, 0, none⟩) 1 1) 1 ((List.replicate 1 (0 : Int)).map (Value.int .i64)) := by simpa using hown
    refine (rw_of_own h1 (by simp)).congr fun t ht => ?_
    obtain rfl : t = 0 := by omega
    rfl
  have B7 := hideP (B6.out.trans (BG7.out.mono B6.out.size))
  obtain ⟨g7, hg7⟩ : ∃ g7, w6.heap.size = g7 := ⟨_, rfl⟩
  have hg7b : wb.heap.size ≤ g7 := by rw [← hg7]; exact B6.out.size
  rw [hg7] at R7 ⊢
  clear hown hgrow BG7 B6 hg7 c01
  go_wp2_with fail
  go_step3
  go_wp2_with fail
  go_loopg [6, 8, 9, 28] 1 (fun g vs _ _ vi wr => vs = .int .i64 0 ∧ ((g = 1 ∧ vi = .int .i64 0 ∧ wr = w7) ∨ (g = 0 ∧ vi = .int .i64 1 ∧ Hid (Rw g7 0 1 (fun _ => x) wr) ∧ Hid (Below wb.heap.size wb wr))))
  case atStart => exact ⟨rfl, .inl ⟨rfl, rfl, rfl⟩⟩
  case round =>
    obtain ⟨rfl, ⟨rfl, rfl, rfl⟩ | ⟨rfl, rfl, RR, BB⟩⟩ := hrel
    · rename World => w7
      have ZR := hideP (PB.out _ B7.out)
      have cd : w7.cell? ⟨b1, o1, none⟩ = some (.int .i64 x) := (ZR.out.2.2.cell (p := ⟨b1, o1, none⟩) HC.out.1).trans HC.out.2
      have c01 := ZR.out.1.2
      have c7 : w7.cell? ⟨g7, 0, none⟩ = some (.int .i64 0) := (R7.out.2 0 (by omega)).1
      have f7 : w7.frozen? ⟨g7, 0, none⟩ = false := (R7.out.2 0 (by omega)).2
      have RN : Hid (Rw g7 0 1 (fun _ => x) (w7.setCell ⟨g7, 0, none⟩ (.int .i64 x))) := (R7.out.set (k := 0) x (by omega)).congr fun t ht => by
        obtain rfl : t = 0 := by omega
        rfl
      have BN : Hid (Below wb.heap.size wb (w7.setCell ⟨g7, 0, none⟩ (.int .i64 x))) := B7.out.setCell (by show wb.heap.size ≤ g7; omega) _
      clear R7 B7
      go_wp2_with fail
      go_loopg [6, 9] 0 (fun gi vs vc w2 => vs = .int .i64 0 ∧ vc = .int .i64 (-1) ∧ w2 = w7.setCell ⟨g7, 0, none⟩ (.int .i64 x))
      case atStart => exact ⟨rfl, by go_num, rfl⟩
      case round =>
        obtain ⟨rfl, rfl, rfl⟩ := hrel
        go_wp2_with fail
        go_roundg 0
        case rel => exact ⟨rfl, .inr ⟨rfl, by go_num, RN, BN⟩⟩
        case measure => omega
    · have ZR := hideP (PB.out wr BB.out)
      have hsz : wb.heap.size ≤ wr.heap.size := BB.out.size
      have OD : Hid (Own wb.heap.size wr (.slice (some ⟨g7, 0, none⟩) 1 1) [x]) := own_of_rw' RR.out hg7b rfl (fun t ht => by
        obtain rfl : t = 0 := by omega
        rfl)
      have r0 := ZR.out.2.1.1
      have r1 := ZR.out.2.1.2.1
      have f2 := ZR.out.2.1.2.2
      clear R7 B7
      go_wp2_with fail
      try rw [Exit.noGoto_ret]
      refine bodyPost_ret (v := .agg #[.slice a3 0 cap3, .slice (some ⟨g7, 0, none⟩) 1 1]) (by simp [results, Try.results115, go_sem, r0, r1]) rfl ⟨(ZR.out.2.2.setCell (by simp) _).setCell (by simp) _, .inl ⟨rfl, _, _, rfl, ⟨_, _, rfl, .inl rfl⟩, ?_, .inl rfl⟩⟩
      exact Own.base (Own.store (Own.store OD.out (by omega) _) (by omega) _) (by omega)

/-- impl.flip -/
theorem flip_any (b0 o0 c0 b1 o1 c1 : Nat) (sh da : List Int) (w : World) (h0 : Rd w.heap.size w (.slice (some ⟨b0, o0, none⟩) sh.length c0) sh) (h1 : Rd w.heap.size w (.slice (some ⟨b1, o1, none⟩) da.length c1) da) (hc0 : sh.length ≤ c0) (hc0' : c0 ≤ 9223372036854775807) (hok : Pl.okB sh da = true) (c : Int) (S D : List Int) (hres : Pl.flipM sh da = (c, S, D)) :
    Calls Try.prog 115 #[.agg #[.slice (some ⟨b0, o0, none⟩) sh.length c0, .slice (some ⟨b1, o1, none⟩) da.length c1]] w (KPost w c S D) := by
  unfold Pl.flipM at hres
  simp only [Prod.mk.injEq] at hres
  obtain ⟨rfl, hS, hD⟩ := hres
  by_cases hr : 0 < sh.length
  · exact flip_core b0 o0 c0 b1 o1 c1 sh da w h0 h1 hc0 hc0' hok hr S D hS hD
  · obtain rfl : sh = [] := List.length_eq_zero_iff.1 (by omega)
    have hd1 := Pl.ok_one hok rfl
    match da, hd1, h1, hD with
    | [x], _, h1, hD =>
      rw [← hS, ← hD]
      exact flip_zero b0 o0 c0 b1 o1 c1 x w h1

end Go.Proofs.Ytmobjomebmipdaa
