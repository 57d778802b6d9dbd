import Derived.Test.YtmobjomebmipdaaDy4
import Derived.Test.YtmobjomebmipdaaFold
namespace Go.Proofs.Ytmobjomebmipdaa
open Go.RowKit
set_option linter.unusedVariables false

namespace Pl
def nonneg (x : Int) : Bool := decide (0 ≤ x)
/-- reshape of valid arrays -/
def reshM (sa da sb db : List Int) : Int × List Int × List Int :=
  if 1 < sa.length then (2, [], [])
  else if 3 < da.length then (6, [], [])
  else if da.all nonneg = false then (1, [], [])
  else if fitsB da = false then (6, [], [])
  else if 0 < prodC da ∧ db.length = 0 then (3, [], [])
  else (0, da, (List.range (prodC da).toNat).map (fun j => db.getD (j % db.length) 0))
end Pl

set_option maxRecDepth 100000 in
set_option maxHeartbeats 3000000 in
/-- impl.reshape of valid arrays -/
theorem reshape_any (b0 b1 b2 b3 : Nat) (sa da sb db : List Int) (w : World)
    (h0 : Rd w.heap.size w (.slice (some ⟨b0, 0, none⟩) sa.length sa.length) sa) (h1 : Rd w.heap.size w (.slice (some ⟨b1, 0, none⟩) da.length da.length) da) (h2 : Rd w.heap.size w (.slice (some ⟨b2, 0, none⟩) sb.length sb.length) sb) (h3 : Rd w.heap.size w (.slice (some ⟨b3, 0, none⟩) db.length db.length) db)
    (oka : Pl.okB sa da = true) (okb : Pl.okB sb db = true) (c : Int) (S D : List Int) (hres : Pl.reshM sa da sb db = (c, S, D)) :
    Calls Try.prog 121 #[.agg #[.slice (some ⟨b0, 0, none⟩) sa.length sa.length, .slice (some ⟨b1, 0, none⟩) da.length da.length], .agg #[.slice (some ⟨b2, 0, none⟩) sb.length sb.length, .slice (some ⟨b3, 0, none⟩) db.length db.length]] w (KPost w c S D) := by
  obtain ⟨i0, hi, hz0, hz1, hz2⟩ := info_parts Try.info3
  have HI := hideP (And.intro hi (And.intro hz0 (And.intro hz1 hz2)))
  clear hi hz0 hz1 hz2
  obtain ⟨hm0, hm1⟩ := Pl.ok_max oka
  obtain ⟨hm2, hm3⟩ := Pl.ok_max okb
  have W0 := hideP (wid_new w h0 h1 h2 h3 27 27 27)
  have B : Hid (∀ o o' o'', Below w.heap.size w (((w.alloc o).alloc o').alloc o'')) := fun o o' o'' => below3 w o o' o''
  have H1 := hideP h1
  have H3 := hideP h3
  have HR := hideP hres
  clear h0 h1 h2 h3 oka okb hres
  have e := HR.out
  unfold Pl.reshM at e
  by_cases hsa : 1 < sa.length
  · rw [if_pos hsa] at e
    simp only [Prod.mk.injEq] at e
    obtain ⟨rfl, rfl, rfl⟩ := e
    have t1 : (1 : Int) < (sa.length : Int) := by omega
    clear HR H1 H3 W0 hsa
    generalize sa.length = lsa at *
    go_enter Try.func121, Try.ntmps121
    go_wp2_with (go_at_call 83; refine (refuse_yes _ _).mono ?_; rintro e w1 ⟨rfl, rfl⟩)
    exact ⟨rfl, B.out _ _ _, .inr ⟨by decide, rfl, rfl, rfl⟩⟩
  · rw [if_neg hsa] at e
    have t1 : decide ((1 : Int) < (sa.length : Int)) = false := by rw [decide_eq_false_iff_not]; omega
    by_cases hda : 3 < da.length
    · rw [if_pos hda] at e
      simp only [Prod.mk.injEq] at e
      obtain ⟨rfl, rfl, rfl⟩ := e
      have t2 : (3 : Int) < (da.length : Int) := by omega
      clear HR H1 H3 W0 hsa hda
      generalize sa.length = lsa at *
      generalize da.length = lda at *
      go_enter Try.func121, Try.ntmps121
      go_wp2_with (first | (go_at_call 83; refine (refuse_no _ _).mono ?_; rintro e w1 ⟨rfl, rfl⟩) | (go_at_call 83; refine (refuse_yes _ _).mono ?_; rintro e w1 ⟨rfl, rfl⟩))
      exact ⟨rfl, B.out _ _ _, .inr ⟨by decide, rfl, rfl, rfl⟩⟩
    · rw [if_neg hda] at e
      have t2 : decide ((3 : Int) < (da.length : Int)) = false := by rw [decide_eq_false_iff_not]; omega
      have HE := hideP e
      clear e HR hsa hda
      generalize hlsa : sa.length = lsa at *
      clear hlsa
      generalize hlda : da.length = lda at *
      have Hlda : Hid (da.length = lda) := hlda
      generalize hm : db.length = m at *
      have Hm : Hid (db.length = m) := hm
      clear hlda hm
      go_enter Try.func121, Try.ntmps121
      go_wp2_with (first | (go_at_call 83; refine (refuse_no _ _).mono ?_; rintro e w1 ⟨rfl, rfl⟩))
      generalize hw1 : (((w.alloc (.cells #[.slice (some ⟨b0, 0, none⟩) lsa lsa, .slice (some ⟨b1, 0, none⟩) lda lda] 27)).alloc (.cells #[.slice (some ⟨b2, 0, none⟩) sb.length sb.length, .slice (some ⟨b3, 0, none⟩) m m] 27)).alloc (.cells #[.slice none 0 0, .slice none 0 0] 27)) = w1 at *
      have W1 : Hid (Wid w sa da sb db (.slice (some ⟨b0, 0, none⟩) lsa lsa) (.slice (some ⟨b1, 0, none⟩) lda lda) (.slice (some ⟨b2, 0, none⟩) sb.length sb.length) (.slice (some ⟨b3, 0, none⟩) m m) w1) := W0
      clear W0 hw1
      have H1' : Hid (∀ W, Below w1.heap.size w1 W → Rd W.heap.size W (.slice (some ⟨b1, 0, none⟩) lda lda) da) := fun W hb => by
        have k := (W1.out.keep hb).1
        exact (H1.out.keep k).up k.size
      go_loopw [6, 22] (fun _ s22 wr => ∃ k : Nat, k ≤ lda ∧ s22 = .int .i64 k ∧ wr = w1 ∧ Hid ((da.take k).all Pl.nonneg = true)) (fun _ s22 _ => lda - (intOf s22).toNat)
      case atStart => exact ⟨0, Nat.zero_le _, rfl, rfl, (show (da.take 0).all Pl.nonneg = true from rfl)⟩
      case round =>
        obtain ⟨k, hk, rfl, rfl, hz⟩ := hrel
        rename World => w1
        by_cases hlt : k < lda
        · have hlt' : (k : Int) < (lda : Int) := by omega
          have hld : k < da.length := by rw [Hlda.out]; exact hlt
          have hck : w1.cell? ⟨b1, k, none⟩ = some (.int .i64 (da.getD k 0)) := by
            have := rd_cell (zs := da) (by rw [Hlda.out]; exact H1.out) (i := k) hld
            rw [Nat.zero_add] at this
            exact (W1.out.1.cell (p := ⟨b1, k, none⟩) this.1).trans this.2
          have AS := hideP (Pl.all_snoc da Pl.nonneg k hld)
          have AF : Hid (Pl.nonneg (da.getD k 0) = false → da.all Pl.nonneg = false) := fun h => Pl.all_false hld h
          generalize da.getD k 0 = x at *
          by_cases hx : x < 0
          · have e := HE.out
            rw [if_pos (AF.out (by unfold Pl.nonneg; rw [decide_eq_false_iff_not]; omega))] at e
            simp only [Prod.mk.injEq] at e
            obtain ⟨rfl, rfl, rfl⟩ := e
            have BW := hideP W1.out.1
            clear AS AF HE hz
            go_wp2_with (go_at_call 83; refine (refuse_yes _ _).mono ?_; rintro e w1 ⟨rfl, rfl⟩)
            exact ⟨rfl, BW.out, .inr ⟨by decide, rfl, rfl, rfl⟩⟩
          · have AL : Hid ((da.take (k + 1)).all Pl.nonneg = true) := by
              show _ = _
              rw [AS.out, hz.out]
              unfold Pl.nonneg
              rw [Bool.true_and, decide_eq_true_eq]
              omega
            clear AS AF
            go_wp2_with (go_at_call 83; refine (refuse_no _ _).mono ?_; rintro e w1 ⟨rfl, rfl⟩)
            go_roundw
            case rel => exact ⟨k + 1, by omega, by go_num, by first | rfl | trivial, AL⟩
            case measure => simp [intOf]; omega
        · have kn : k = lda := by omega
          have hall : da.all Pl.nonneg = true := by
            have := hz.out
            rw [kn, ← Hlda.out, List.take_length] at this
            exact this
          have e := HE.out
          rw [if_neg (by rw [hall]; decide)] at e
          clear hz hall HE
          have ca1 := W1.out.2.2.1.2.1
          have cb1 := W1.out.2.2.1.2.2.2
          have R1 := hideP (H1'.out w1 (Below.refl _ _))
          by_cases hf : Pl.fitsB da = true
          · rw [if_neg (by rw [hf]; decide)] at e
            have KF : Hid (∀ w', Rd w'.heap.size w' (.slice (some ⟨b1, 0, none⟩) lda lda) da → Calls Try.prog 131 #[.slice (some ⟨b1, 0, none⟩) lda lda] w' fun e w'' => e = .returned (.tuple #[]) ∧ w'' = w') := fun w' h => (needFit_any _ _ da w' (by rw [Hlda.out]; omega) h).mono (by
              rintro e w'' ⟨rfl, ⟨_, rfl⟩ | ⟨g, _⟩⟩
              · exact ⟨rfl, rfl⟩
              · rw [hf] at g; cases g)
            have KC : Hid (∀ w', Rd w'.heap.size w' (.slice (some ⟨b1, 0, none⟩) lda lda) da → Calls Try.prog 37 #[.slice (some ⟨b1, 0, none⟩) lda lda] w' fun e w'' => e = .returned (.int .i64 (Pl.prodC da)) ∧ w'' = w') := fun w' h => cellCount_fits _ _ da w' hf h
            have hp : 0 ≤ Pl.prodC da ∧ Pl.prodC da ≤ 1001 := Pl.prodC_bd da (by simp only [Pl.fitsB, Pl.baseB, Bool.and_eq_true] at hf; exact hf.1.2)
            obtain ⟨N, hN⟩ : ∃ N : Nat, Pl.prodC da = N := ⟨(Pl.prodC da).toNat, by omega⟩
            rw [hN] at KC hp e
            rw [Int.toNat_natCast] at e
            have HE := hideP e
            clear e hf hN
            go_wp2_with (first
              | (go_at_call 131; refine (KF.out _ R1.out).mono ?_; rintro e w1 ⟨rfl, rfl⟩)
              | (go_at_call 37; refine (KC.out _ R1.out).mono ?_; rintro e w1 ⟨rfl, rfl⟩)
              | (at_make; refine wpList_make_full _ rfl _ _ 22 rfl w1.heap.size 3 i0 (.int .i64 0) 1 Try.underlying22 HI.out.1 HI.out.2.1 HI.out.2.2.1 _ _ _ _ N rfl rfl rfl rfl ?b2 ?b3 ?b4 ?_))
            case b2 => rw [HI.out.2.2.2]; omega
            case b3 => unfold maxLen; omega
            case b4 => exact Nat.le_refl _
            intro w4 hown hgrow
            rw [made_zeros] at hown
            have B4 : Hid (Below w1.heap.size w1 w4) := (Below.refl _ _).grown hgrow (Nat.le_refl _) (by intro k h; cases h)
            have HO4 := hideP hown
            have W4 := hideP (W1.out.keep B4.out)
            clear hown hgrow ca1 cb1
            have cb1 := W4.out.2.2.1.2.2.2
            by_cases hbad : 0 < N ∧ m = 0
            · have e := HE.out
              rw [if_pos ⟨by omega, hbad.2⟩] at e
              simp only [Prod.mk.injEq] at e
              obtain ⟨rfl, rfl, rfl⟩ := e
              have q1 : (0 : Int) < (N : Int) := by omega
              have q2 : ((m : Int) == 0) = true := by rw [hbad.2]; rfl
              have BW := hideP W4.out.1
              clear HE hbad
              go_wp2_with (go_at_call 83; refine (refuse_yes _ _).mono ?_; rintro e w4 ⟨rfl, rfl⟩)
              exact ⟨rfl, BW.out, .inr ⟨by decide, rfl, rfl, rfl⟩⟩
            · have e := HE.out
              rw [if_neg (by rintro ⟨h, h'⟩; exact hbad ⟨by omega, h'⟩)] at e
              simp only [Prod.mk.injEq] at e
              obtain ⟨rfl, rfl, hD⟩ := e
              have RM : Hid ((List.range N).map (fun j => db.getD (j % m) 0) = D) := hD
              have hDl : D.length = N := by rw [← hD]; simp
              clear HE hD
              go_upto_region 10 with fail
              go_cut [] (fun wy => wy = w4)
              case first =>
                by_cases hN0 : N = 0
                · have q1 : decide (0 < N) = false := by rw [decide_eq_false_iff_not]; omega
                  clear hN0
                  go_wp2_with (go_at_call 83; refine (refuse_no _ _).mono ?_; rintro e w4 ⟨rfl, rfl⟩)
                  go_meet
                  case rel => first | rfl | trivial
                · have q1 : 0 < N := by omega
                  have q2 : ((m : Int) == 0) = false := by rw [beq_eq_false_iff_ne]; omega
                  clear hN0
                  go_wp2_with (go_at_call 83; refine (refuse_no _ _).mono ?_; rintro e w4 ⟨rfl, rfl⟩)
                  go_meet
                  case rel => first | rfl | trivial
              case rest =>
                obtain rfl := hcut
                rename World => w4
                clear cb1 KF KC R1
                go_wp2_with fail
                go_loopw [8, 49] (fun _ s49 wr => ∃ k : Nat, k ≤ N ∧ s49 = .int .i64 k ∧ Hid (wr.ownsRow w1.heap.size 3 1 (.slice (some ⟨w1.heap.size, 0, none⟩) N N) N ((Pl.upI (fun j => db.getD (j % m) 0) N k).map (Value.int .i64))) ∧ Hid (Below w1.heap.size w1 wr)) (fun _ s49 _ => N - (intOf s49).toNat)
                case atStart =>
                  refine ⟨0, Nat.zero_le _, rfl, ?_, B4⟩
                  show World.ownsRow _ _ _ _ _ _ _
                  rw [Pl.upI_zero]
                  exact HO4.out
                case round =>
                  clear HO4 B4 W4
                  obtain ⟨k, hk, rfl, ho, hbel⟩ := hrel
                  have WR := hideP (W1.out.keep hbel.out)
                  have hsr := hbel.out.size
                  by_cases hlt : k < N
                  · have hlt' : (k : Int) < (N : Int) := by omega
                    have hmp : 0 < m := by omega
                    have hq : k % m < m := Nat.mod_lt _ hmp
                    have US := hideP (Pl.upI_step (fun j => db.getD (j % m) 0) hlt)
                    have rc := rd_cell (zs := db) (by rw [Hm.out]; exact H3.out) (i := k % m) (by rw [Hm.out]; exact hq)
                    rw [Nat.zero_add] at rc
                    have CY := hideP rc
                    have d2 : (k : Int) % (m : Int) = ((k % m : Nat) : Int) := by simp
                    have d4 : Int.tmod (k : Int) (m : Int) = ((k % m : Nat) : Int) := rfl
                    have d3 : ¬ (m : Int) = 0 := by omega
                    clear rc
                    generalize db.getD (k % m) 0 = x at *
                    generalize k % m = q at *
                    have LR : Hid (∀ w', Below w1.heap.size w1 w' → w'.cell? ⟨w.heap.size + 1, 1, none⟩ = some (.slice (some ⟨b3, 0, none⟩) m m) ∧ w'.cell? ⟨b3, q, none⟩ = some (.int .i64 x)) := fun w' h => by
                      have z := W1.out.keep h
                      exact ⟨z.2.2.1.2.2.2, (z.1.cell (p := ⟨b3, q, none⟩) CY.out.1).trans CY.out.2⟩
                    have DR := hideP (show Below w1.heap.size w1 wr.drew from hbel.out.drew)
                    have ORd : Hid (wr.drew.ownsRow w1.heap.size 3 1 (.slice (some ⟨w1.heap.size, 0, none⟩) N N) N ((Pl.upI (fun j => db.getD (j % m) 0) N k).map (Value.int .i64))) := ho.out.drew
                    go_wp2_with fail
                    refine wp_region_held (S := fun w' => Below w1.heap.size w1 w') (by kernel_rfl) ?_
                    change wpAnyH _ _ _ _ _ _ _ _ (World.drew _)
                    clear ho hbel WR hsr
                    generalize World.drew wr = wn0 at *
                    refine wpAnyH_take (i := 0) (v := .slice (some ⟨w1.heap.size, 0, none⟩) N N) rfl (by kernel_rfl) (by kernel_rfl) (by kernel_rfl) (fun _ _ _ h => h) (Or.inl ⟨by rfl, ?_⟩) DR.out ?_
                    · intro w' hS
                      clear hS
                      go_simp
                    refine wpAnyH_take (i := 1) (v := .int .i64 (k : Int)) rfl (by kernel_rfl) (by kernel_rfl) (by kernel_rfl) (fun _ _ _ h => h) (Or.inl ⟨by rfl, ?_⟩) DR.out ?_
                    · intro w' hS
                      clear hS
                      go_simp
                    refine wpAnyH_take (i := 2) (v := .pointer (some ⟨w.heap.size + 1, 1, none⟩)) rfl (by kernel_rfl) (by kernel_rfl) (by kernel_rfl) (fun _ _ _ h => h) (Or.inl ⟨by rfl, ?_⟩) DR.out ?_
                    · intro w' hS
                      clear hS
                      go_simp
                    refine wpAnyH_take (i := 3) (v := .slice (some ⟨b3, 0, none⟩) m m) rfl (by kernel_rfl) (by kernel_rfl) (by kernel_rfl) (fun _ _ _ h => h) (Or.inl ⟨by rfl, ?_⟩) DR.out ?_
                    · intro w' hS
                      have := (LR.out w' hS).1
                      clear hS
                      go_simp
                    refine wpAnyH_take (i := 4) (v := .int .i64 (k : Int)) rfl (by kernel_rfl) (by kernel_rfl) (by kernel_rfl) (fun _ _ _ h => h) (Or.inl ⟨by rfl, ?_⟩) DR.out ?_
                    · intro w' hS
                      clear hS
                      go_simp
                    refine wpAnyH_take (i := 5) (v := .pointer (some ⟨w.heap.size + 1, 1, none⟩)) rfl (by kernel_rfl) (by kernel_rfl) (by kernel_rfl) (fun _ _ _ h => h) (Or.inl ⟨by rfl, ?_⟩) DR.out ?_
                    · intro w' hS
                      clear hS
                      go_simp
                    refine wpAnyH_take (i := 6) (v := .slice (some ⟨b3, 0, none⟩) m m) rfl (by kernel_rfl) (by kernel_rfl) (by kernel_rfl) (fun _ _ _ h => h) (Or.inl ⟨by rfl, ?_⟩) DR.out ?_
                    · intro w' hS
                      have := (LR.out w' hS).1
                      clear hS
                      go_simp
                    refine wpAnyH_take (i := 7) (v := .int .i64 (m : Int)) rfl (by kernel_rfl) (by kernel_rfl) (by kernel_rfl) (fun _ _ _ h => h) (Or.inl ⟨by rfl, ?_⟩) DR.out ?_
                    · intro w' hS
                      clear hS
                      go_simp
                    refine wpAnyH_take (i := 8) (v := .int .i64 (q : Int)) rfl (by kernel_rfl) (by kernel_rfl) (by kernel_rfl) (fun _ _ _ h => h) (Or.inl ⟨by rfl, ?_⟩) DR.out ?_
                    · intro w' hS
                      clear hS
                      go_simp
                      omega
                    refine wpAnyH_take (i := 9) (v := .pointer (some ⟨b3, q, none⟩)) rfl (by kernel_rfl) (by kernel_rfl) (by kernel_rfl) (fun _ _ _ h => h) (Or.inl ⟨by rfl, ?_⟩) DR.out ?_
                    · intro w' hS
                      clear hS
                      go_simp
                    refine wpAnyH_take (i := 10) (v := .int .i64 x) rfl (by kernel_rfl) (by kernel_rfl) (by kernel_rfl) (fun _ _ _ h => h) (Or.inl ⟨by rfl, ?_⟩) DR.out ?_
                    · intro w' hS
                      have := (LR.out w' hS).2
                      clear hS
                      go_simp
                    clear d2 d3 d4 LR
                    have hfz := ORd.out.frozenAt k
                    have hst := ORd.out.stored k (.int .i64 x)
                    obtain ⟨u, hcg⟩ : ∃ u, wn0.cell? ⟨w1.heap.size, k, none⟩ = some (.int .i64 u) := by
                      rw [ORd.out.cellAt k (by omega)]
                      have hlen : k < (Pl.upI (fun j => db.getD (j % m) 0) N k).length := by rw [Pl.upI_len _ (by omega)]; omega
                      exact ⟨(Pl.upI (fun j => db.getD (j % m) 0) N k)[k], by simp⟩
                    have hsz : w1.heap.size < wn0.heap.size := World.block_lt_of_cell? wn0 _ hcg
                    have R : Hid ((wn0.setCell ⟨w1.heap.size, k, none⟩ (.int .i64 x)).ownsRow w1.heap.size 3 1 (.slice (some ⟨w1.heap.size, 0, none⟩) N N) N ((Pl.upI (fun j => db.getD (j % m) 0) N (k + 1)).map (Value.int .i64))) := by
                      show World.ownsRow _ _ _ _ _ _ _
                      rw [← US.out, List.map_set]
                      exact hst.1
                    have S9 : Hid (Below w1.heap.size w1 (wn0.setCell ⟨w1.heap.size, k, none⟩ (.int .i64 x))) := DR.out.setCell (Nat.le_refl _) _
                    clear hst
                    refine wpAnyH_ready (rs := [11]) (by kernel_rfl) (by simp) ?_
                    refine AllReadyH.cons rfl (fun K hK => ?_) AllReadyH.nil
                    go_simp
                    refine hK.out _ _ DR.out (fun _ => ?_)
                    clear hK
                    refine wpAnyH_ready (rs := [12]) (by kernel_rfl) (by simp) ?_
                    refine AllReadyH.cons rfl (fun K hK => ?_) AllReadyH.nil
                    go_simp
                    refine hK.out _ _ S9.out (fun _ => ?_)
                    clear hK
                    refine wpAnyH_done (by kernel_rfl) ?_ _
                    go_wp2_with fail
                    go_roundw
                    case rel => exact ⟨k + 1, by omega, by go_num, R, S9⟩
                    case measure => simp [intOf]; omega
                  · have km : k = N := by omega
                    subst km
                    rw [Pl.upI_all, RM.out] at ho
                    have cs := WR.out.2.2.1.2.1
                    have RS := hideP (H1'.out wr hbel.out)
                    have hs1 := W1.out.2.1
                    have A1 : Hid (∀ o, Below wr.heap.size wr (wr.alloc o)) := fun o => (Below.refl _ _).alloc (Nat.le_refl _) _
                    go_wp2_with fail
                    have RS2 : Hid (∀ o, Rd (wr.alloc o).heap.size (wr.alloc o) (.slice (some ⟨b1, 0, none⟩) lda lda) da) := fun o => (RS.out.keep (A1.out o)).up (by simp)
                    have JJ := joined1_own wr.heap.size (.slice (some ⟨b1, 0, none⟩) lda lda) da (wr.alloc (.cells #[.slice (some ⟨b1, 0, none⟩) lda lda] 22)) (by rw [Hlda.out]; omega) (by simp) (by simp [go_sem]) (RS2.out _)
                    rw [Hlda.out] at JJ
                    refine JJ.mono ?_
                    rintro e w5 ⟨ao, cap, rfl, ho5, hb5⟩
                    have B5 : Hid (Below wr.heap.size wr w5) := (A1.out _).trans (hb5.mono (by simp))
                    have hs5 := B5.out.size
                    have Z5 := hideP (W1.out.keep (hbel.out.trans (B5.out.mono hsr)))
                    have r0 := Z5.out.2.2.2.1.1
                    have r1 := Z5.out.2.2.2.1.2.1
                    have f2 := Z5.out.2.2.2.1.2.2
                    have O5 := hideP (ho5.base (show wr.heap.size ≤ _ by simp))
                    have OD : Hid (Own w1.heap.size w5 (.slice (some ⟨w1.heap.size, 0, none⟩) k k) D) := by
                      have h := owns_keep ho.out B5.out
                      rw [show k = D.length by rw [hDl]] at h ⊢
                      exact own_of_any h
                    clear hb5 ho5 cs JJ
                    go_wp2_with fail
                    refine bodyPost_ret (v := .agg #[.slice ao lda cap, .slice (some ⟨w1.heap.size, 0, none⟩) k k]) (by simp [results, Try.results121, go_sem, r0, r1]) rfl ⟨(Z5.out.1.setCell (by simp; omega) _).setCell (by simp; omega) _, .inl ⟨rfl, _, _, rfl, ?_, ?_, ?_⟩⟩
                    · exact Own.base (Own.store (Own.store O5.out (by omega) _) (by omega) _) (by omega)
                    · exact Own.base (Own.store (Own.store OD.out (by omega) _) (by omega) _) (by omega)
                    · exact apart_left O5.out (fun b h => (ho.out.lt b h).2)
          · have hff : Pl.fitsB da = false := by simpa using hf
            rw [if_pos hff] at e
            simp only [Prod.mk.injEq] at e
            obtain ⟨rfl, rfl, rfl⟩ := e
            have KF : Hid (∀ w', Rd w'.heap.size w' (.slice (some ⟨b1, 0, none⟩) lda lda) da → Calls Try.prog 131 #[.slice (some ⟨b1, 0, none⟩) lda lda] w' fun e w'' => e = .panicked [thrown 6] ∧ w'' = w') := fun w' h => (needFit_any _ _ da w' (by rw [Hlda.out]; omega) h).mono (by
              rintro e w'' ⟨rfl, ⟨g, _⟩ | ⟨_, rfl⟩⟩
              · exact absurd g hf
              · exact ⟨rfl, rfl⟩)
            have BW := hideP W1.out.1
            clear hf hff
            go_wp2_with (go_at_call 131; refine (KF.out _ R1.out).mono ?_; rintro e w1 ⟨rfl, rfl⟩)
            exact ⟨rfl, BW.out, .inr ⟨by decide, rfl, rfl, rfl⟩⟩

end Go.Proofs.Ytmobjomebmipdaa
