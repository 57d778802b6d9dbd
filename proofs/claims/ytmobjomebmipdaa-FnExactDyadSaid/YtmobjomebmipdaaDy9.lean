import Derived.Test.YtmobjomebmipdaaDy8
import Derived.Test.YtmobjomebmipdaaDy2
namespace Go.Proofs.Ytmobjomebmipdaa
open Go.RowKit
set_option linter.unusedVariables false

theorem Pl.findN_le (xs : List Int) (v : Int) : Pl.findN xs v ≤ xs.length := by
  induction xs with
  | nil => exact Nat.le_refl _
  | cons x xs ih =>
    unfold Pl.findN
    split
    · exact Nat.zero_le _
    · rw [List.length_cons]; omega

set_option maxRecDepth 100000 in
set_option maxHeartbeats 8000000 in
/-- spec.Dyad with the number 6 -/
theorem specD_6 (b0 b1 b2 b3 : Nat) (sa da sb db : List Int) (w : World) (hl0 : sa.length ≤ 1048576) (hl1 : da.length ≤ 1048576) (hl2 : sb.length ≤ 1048576) (hl3 : db.length ≤ 1048576) (h0 : Rd w.heap.size w (.slice (some ⟨b0, 0, none⟩) sa.length sa.length) sa) (h1 : Rd w.heap.size w (.slice (some ⟨b1, 0, none⟩) da.length da.length) da) (h2 : Rd w.heap.size w (.slice (some ⟨b2, 0, none⟩) sb.length sb.length) sb) (h3 : Rd w.heap.size w (.slice (some ⟨b3, 0, none⟩) db.length db.length) db) (oka : Pl.okB sa da = true) (okb : Pl.okB sb db = true) (c : Int) (S D : List Int) (hres : Pl.findM sa da sb db = (c, S, D)) :
    Calls Try.prog 24 #[.int .i64 6, .agg #[.slice (some ⟨b0, 0, none⟩) sa.length sa.length, .slice (some ⟨b1, 0, none⟩) da.length da.length], .agg #[.slice (some ⟨b2, 0, none⟩) sb.length sb.length, .slice (some ⟨b3, 0, none⟩) db.length db.length]] w (FPost w c S D) := by
  obtain ⟨hm0, hm1⟩ := Pl.ok_max oka
  obtain ⟨hm2, hm3⟩ := Pl.ok_max okb
  have B : Hid (∀ o o' o'', Below w.heap.size w (((w.alloc o).alloc o').alloc o'')) := fun o o' o'' => below3 w o o' o''
  have H0 := hideP h0
  have H1 := hideP h1
  have H2 := hideP h2
  have H3 := hideP h3
  have KA : Hid (∀ w', Below w.heap.size w w' → Calls Try.prog 12 #[.agg #[.slice (some ⟨b0, 0, none⟩) sa.length sa.length, .slice (some ⟨b1, 0, none⟩) da.length da.length]] w' fun e w'' => e = .returned (.bool (Pl.okB sa da)) ∧ Below w'.heap.size w' w'') := fun w' h => specOk_any _ _ sa da w' hl0 hl1 ((H0.out.keep h).up h.size) ((H1.out.keep h).up h.size)
  have KB : Hid (∀ w', Below w.heap.size w w' → Calls Try.prog 12 #[.agg #[.slice (some ⟨b2, 0, none⟩) sb.length sb.length, .slice (some ⟨b3, 0, none⟩) db.length db.length]] w' fun e w'' => e = .returned (.bool (Pl.okB sb db)) ∧ Below w'.heap.size w' w'') := fun w' h => specOk_any _ _ sb db w' hl2 hl3 ((H2.out.keep h).up h.size) ((H3.out.keep h).up h.size)
  have W0 := hideP (wid_new w h0 h1 h2 h3 27 27 27)
  rw [oka] at KA
  rw [okb] at KB
  have e := hres
  unfold Pl.findM at e
  have Hlda : Hid (∀ n, n = da.length → da.length = n) := fun n h => h.symm
  by_cases hsa : sa.length = 1
  · rw [if_pos hsa] at e
    simp only [Prod.mk.injEq] at e
    obtain ⟨rfl, rfl, hD⟩ := e
    have t1 : ((sa.length : Int) != 1) = false := by rw [hsa]; rfl
    have RM : Hid (db.map (fun v => ((Pl.findN da v : Nat) : Int)) = D) := hD
    have KC : Hid (∀ w', Below w.heap.size w w' → Calls Try.prog 40 #[.slice (some ⟨b2, 0, none⟩) sb.length sb.length] w' fun e w'' => ∃ v, e = .returned v ∧ w''.ownsRow w'.heap.size 3 1 v sb.length (sb.map (Value.int .i64)) ∧ Below w'.heap.size w' w'') := fun w' h => l2Copy_any _ sb w' hl2 ((H2.out.keep h).up h.size)
    have KFi : Hid (∀ w' v, Below w.heap.size w w' → Calls Try.prog 68 #[.slice (some ⟨b1, 0, none⟩) da.length da.length, .int .i64 v] w' fun e w'' => e = .returned (.int .i64 ((Pl.findN da v : Nat) : Int)) ∧ w'' = w') := fun w' v h => l2Find_any w.heap.size _ da v w' hl1 (H1.out.keep h)
    have CD : Hid (∀ k, k < db.length → b3 < w.heap.size ∧ w.cell? ⟨b3, k, none⟩ = some (.int .i64 (db.getD k 0))) := fun k hk => by
      have := rd_cell H3.out hk
      rw [Nat.zero_add] at this
      exact this
    have TS : Hid (∀ k, k < db.length → (db.take (k + 1)).map (fun v => ((Pl.findN da v : Nat) : Int)) = (db.take k).map (fun v => ((Pl.findN da v : Nat) : Int)) ++ [((Pl.findN da (db.getD k 0) : Nat) : Int)]) := fun k hk => by
      rw [Pl.take_snoc db k hk, List.map_append]
      rfl
    have FNL : Hid (∀ x, Pl.findN da x ≤ da.length) := fun x => Pl.findN_le da x
    have TL : Hid ((db.take db.length).map (fun v => ((Pl.findN da v : Nat) : Int)) = D) := by show _ = _; rw [List.take_length]; exact RM.out
    clear h0 h1 h2 h3 oka okb hres hsa hD H0 H1 H2 H3 RM hl0 hl1 hl2 hl3 Hlda
    generalize sa.length = lsa at *
    generalize da.length = lda at *
    generalize hsb : sb.length = lsb at *
    have Hsb : Hid (sb.length = lsb) := hsb
    clear hsb
    generalize db.length = ldb at *
    go_enter Try.func24, Try.ntmps24
    go_wp2_with fail
    refine (KA.out _ (B.out _ _ _)).mono ?_
    rintro e w1 ⟨rfl, hb1⟩
    have W1 := hideP (W0.out.keep hb1)
    clear hb1
    have c2 := W1.out.2.2.1.2.2.1
    have c3 := W1.out.2.2.1.2.2.2
    go_wp2_with fail
    clear c2 c3
    refine (KB.out _ W1.out.1).mono ?_
    rintro e w2 ⟨rfl, hb2⟩
    have W2 := hideP (W1.out.keep hb2)
    clear hb2
    have c0 := W2.out.2.2.1.1
    have c2 := W2.out.2.2.1.2.2.1
    go_wp2_with fail
    refine (KC.out _ W2.out.1).mono ?_
    rintro e w3 ⟨v2, rfl, ho3, hb3⟩
    obtain ⟨xc, yc, ec⟩ := owns_form ho3
    subst ec
    have HO3 := hideP ho3
    have B3 := hideP hb3
    have hs2 := W2.out.2.1
    have hs3 := hb3.size
    clear ho3 hb3 c0 c2
    go_wp2_with fail
    have L0 : Hid (Lp w2 sb (w3.heap.size + 1) (.slice xc lsb yc) (.slice (some ⟨w3.heap.size, 0, none⟩) 0 0) [] ((w3.alloc (.cells #[] 3)).alloc (.cells #[.slice xc lsb yc, .slice (some ⟨w3.heap.size, 0, none⟩) 0 0] 27))) := by
      have b1 : Below w2.heap.size w2 (w3.alloc (.cells #[] 3)) := B3.out.alloc hs3 _
      refine ⟨b1.alloc b1.size _, by omega, ?_, ?_, ?_, ?_⟩
      · have := heap_alloc_new (w3.alloc (.cells #[] 3)) (.cells #[.slice xc lsb yc, .slice (some ⟨w3.heap.size, 0, none⟩) 0 0] 27)
        simpa using this
      · rw [Hsb.out]
        exact (HO3.out.alloc _).alloc _
      · exact (owns_base (owns_empty w3 w3.heap.size (Nat.le_refl _)) hs3).alloc _
      · intro b e e2
        have h1 := (HO3.out.lt b e).2
        simp [Value.ownBlock] at e2
        omega
    go_loopw [9] (fun s9 wr => ∃ k : Nat, k ≤ ldb ∧ s9 = .int .i64 k ∧ ∃ nv, Hid (Lp w2 sb (w3.heap.size + 1) (.slice xc lsb yc) nv ((db.take k).map (fun v => ((Pl.findN da v : Nat) : Int))) wr)) (fun s9 _ => ldb - (intOf s9).toNat)
    case atStart => exact ⟨0, Nat.zero_le _, rfl, _, L0⟩
    case round =>
      clear L0 HO3 B3
      obtain ⟨k, hk, rfl, nv, hL⟩ := hrel
      have WR := hideP (W2.out.keep hL.out.bel)
      have cd := WR.out.2.2.1.2.2.2
      by_cases hlt : k < ldb
      · have hlt' : (k : Int) < (ldb : Int) := by omega
        have CY := hideP (CD.out k hlt)
        have VZ := hideP (TS.out k hlt)
        have UZ : Hid (((db.take k).map (fun v => ((Pl.findN da v : Nat) : Int))).length + 1 ≤ 16777216) := by show _ ≤ _; rw [List.length_map, List.length_take]; omega
        generalize (db.take k).map (fun v => ((Pl.findN da v : Nat) : Int)) = zs at *
        generalize db.getD k 0 = x at *
        have KX : Hid (∀ w', Below w2.heap.size w2 w' → Calls Try.prog 68 #[.slice (some ⟨b1, 0, none⟩) lda lda, .int .i64 x] w' fun e w'' => e = .returned (.int .i64 ((Pl.findN da x : Nat) : Int)) ∧ w'' = w') := fun w' h => KFi.out w' x (W2.out.keep h).1
        have hfn : Pl.findN da x ≤ lda := FNL.out x
        generalize Pl.findN da x = fx at *
        obtain ⟨xo, yo, eo⟩ := owns_form hL.out.d
        subst eo
        have LR : Hid (∀ w', Below w2.heap.size w2 w' → w'.cell? ⟨w.heap.size, 1, none⟩ = some (.slice (some ⟨b1, 0, none⟩) lda lda) ∧ w'.cell? ⟨w.heap.size + 1, 1, none⟩ = some (.slice (some ⟨b3, 0, none⟩) ldb ldb) ∧ w'.cell? ⟨b3, k, none⟩ = some (.int .i64 x)) := fun w' h => by
          have z := W2.out.keep h
          exact ⟨z.2.2.1.2.1, z.2.2.1.2.2.2, (z.1.cell (p := ⟨b3, k, none⟩) CY.out.1).trans CY.out.2⟩
        have LQ := hideP (hL.out.quiet ((Below.refl wr.heap.size wr).drew))
        go_wp2_with fail
        refine wp_region_held (S := fun w' => Below w2.heap.size w2 w') (by kernel_rfl) ?_
        change wpAnyH _ _ _ _ _ _ _ _ (World.drew _)
        clear hL WR cd
        generalize World.drew wr = wn0 at *
        have DR := hideP LQ.out.bel
        have hPn : w3.heap.size + 1 < wn0.heap.size := (Array.getElem?_eq_some_iff.1 LQ.out.blk).1
        have p1 : wn0.cell? ⟨w3.heap.size + 1, 1, none⟩ = some (.slice xo zs.length yo) := cell_blk LQ.out.blk
        have DA : Hid (∀ o, Below w2.heap.size w2 (wn0.alloc o)) := fun o => DR.out.alloc DR.out.size _
        have HSZ : Hid (∀ o, w2.heap.size ≤ (wn0.alloc o).heap.size) := fun o => (DA.out o).size
        have OA : Hid (∀ o, (wn0.alloc o).ownsRow w2.heap.size 3 1 (.slice xo zs.length yo) zs.length (zs.map (Value.int .i64))) := fun o => LQ.out.d.alloc o
        have RN : Hid (Rd (wn0.alloc (.cells #[.int .i64 (fx : Int)] 3)).heap.size (wn0.alloc (.cells #[.int .i64 (fx : Int)] 3)) (.slice (some ⟨wn0.heap.size, 0, none⟩) 1 1) [(fx : Int)]) := (own_of_any (owns_one wn0 (fx : Int) 0 (Nat.zero_le _))).rd
        refine wpAnyH_take (i := 0) (v := .pointer (some ⟨w3.heap.size + 1, 1, none⟩)) rfl (by kernel_rfl) (by kernel_rfl) (by kernel_rfl) (fun _ _ _ h => h) (Or.inl ⟨by rfl, ?_⟩) DR.out ?_
        · intro w' hS
          clear hS
          go_simp
        refine wpAnyH_take (i := 2) (v := .pointer (some ⟨w.heap.size, 1, none⟩)) rfl (by kernel_rfl) (by kernel_rfl) (by kernel_rfl) (fun _ _ _ h => h) (Or.inl ⟨by rfl, ?_⟩) DR.out ?_
        · intro w' hS
          clear hS
          go_simp
        refine wpAnyH_take (i := 3) (v := .slice (some ⟨b1, 0, none⟩) lda lda) rfl (by kernel_rfl) (by kernel_rfl) (by kernel_rfl) (fun _ _ _ h => h) (Or.inl ⟨by rfl, ?_⟩) DR.out ?_
        · intro w' hS
          have := (LR.out w' hS).1
          clear hS
          go_simp
        refine wpAnyH_take (i := 4) (v := .pointer (some ⟨w.heap.size + 1, 1, none⟩)) rfl (by kernel_rfl) (by kernel_rfl) (by kernel_rfl) (fun _ _ _ h => h) (Or.inl ⟨by rfl, ?_⟩) DR.out ?_
        · intro w' hS
          clear hS
          go_simp
        refine wpAnyH_take (i := 5) (v := .slice (some ⟨b3, 0, none⟩) ldb ldb) rfl (by kernel_rfl) (by kernel_rfl) (by kernel_rfl) (fun _ _ _ h => h) (Or.inl ⟨by rfl, ?_⟩) DR.out ?_
        · intro w' hS
          have := (LR.out w' hS).2.1
          clear hS
          go_simp
        refine wpAnyH_take (i := 6) (v := .int .i64 (k : Int)) rfl (by kernel_rfl) (by kernel_rfl) (by kernel_rfl) (fun _ _ _ h => h) (Or.inl ⟨by rfl, ?_⟩) DR.out ?_
        · intro w' hS
          clear hS
          go_simp
        refine wpAnyH_take (i := 7) (v := .pointer (some ⟨b3, k, none⟩)) rfl (by kernel_rfl) (by kernel_rfl) (by kernel_rfl) (fun _ _ _ h => h) (Or.inl ⟨by rfl, ?_⟩) DR.out ?_
        · intro w' hS
          clear hS
          go_simp
        refine wpAnyH_take (i := 8) (v := .int .i64 x) rfl (by kernel_rfl) (by kernel_rfl) (by kernel_rfl) (fun _ _ _ h => h) (Or.inl ⟨by rfl, ?_⟩) DR.out ?_
        · intro w' hS
          have := (LR.out w' hS).2.2
          clear hS
          go_simp
        clear LR
        refine wpAnyH_ready (rs := [1, 9]) (by kernel_rfl) (by simp) ?_
        refine AllReadyH.cons rfl (fun K hK => ?_) (AllReadyH.cons rfl (fun K hK => ?_) AllReadyH.nil)
        · go_simp
          refine hK.out _ _ DR.out (fun _ => ?_)
          clear hK
          refine wpAnyH_ready (rs := [9]) (by kernel_rfl) (by simp) ?_
          refine AllReadyH.cons rfl (fun K hK => ?_) AllReadyH.nil
          go_simp
          refine (KX.out _ DR.out).mono ?_
          rintro e wn0 ⟨rfl, rfl⟩
          refine hK.out _ _ DR.out (fun _ => ?_)
          clear hK
          refine wpAnyH_ready (rs := [10]) (by kernel_rfl) (by simp) ?_
          refine AllReadyH.cons rfl (fun K hK => ?_) AllReadyH.nil
          go_simp
          refine hK.out _ _ (DA.out _) (fun _ => ?_)
          clear hK
          refine wpAnyH_ready (rs := [11]) (by kernel_rfl) (by simp) ?_
          refine AllReadyH.cons rfl (fun K hK => ?_) AllReadyH.nil
          refine step_append_at (base := w2.heap.size) _ rfl _ _ rfl (.slice xo zs.length yo) (.slice (some ⟨wn0.heap.size, 0, none⟩) 1 1) rfl rfl zs.length zs [(fx : Int)] (OA.out _) RN.out (by simpa using UZ.out) (HSZ.out _) ?_
          intro v' w9 ho' hg hat'
          have ho9 : w9.ownsRow w2.heap.size 3 1 v' (zs.length + 1) ((zs ++ [(fx : Int)]).map (Value.int .i64)) := ho'
          have OS := hideP (LQ.out.step hg ho9 (by simpa using hat'))
          have S9 : Hid (Below w2.heap.size w2 w9) := (DA.out _).grown hg (HSZ.out _) (fun k hk => (LQ.out.d.lt k hk).1)
          obtain ⟨x9, y9, e9⟩ := owns_form ho9
          subst e9
          have hs9 : w3.heap.size + 1 < w9.heap.size := (Array.getElem?_eq_some_iff.1 OS.out.1).1
          have p9 : w9.cell? ⟨w3.heap.size + 1, 1, none⟩ = some (.slice xo zs.length yo) := cell_blk OS.out.1
          have f9 : w9.frozen? ⟨w3.heap.size + 1, 1, none⟩ = false := frozen_blk OS.out.1
          clear ho' ho9 hg hat'
          refine hK.out _ _ S9.out (fun _ => ?_)
          clear hK
          refine wpAnyH_ready (rs := [12]) (by kernel_rfl) (by simp) ?_
          refine AllReadyH.cons rfl (fun K hK => ?_) AllReadyH.nil
          go_simp
          refine hK.out _ _ S9.out (fun _ => ?_)
          clear hK
          refine wpAnyH_ready (rs := [13]) (by kernel_rfl) (by simp) ?_
          refine AllReadyH.cons rfl (fun K hK => ?_) AllReadyH.nil
          go_simp
          refine hK.out _ _ (S9.out.setCell LQ.out.le _) (fun _ => ?_)
          clear hK
          refine wpAnyH_done (by kernel_rfl) ?_ _
          clear p9 f9
          go_wp2_with fail
          go_roundw
          case rel => exact ⟨k + 1, by omega, by go_num, _, by show Lp _ _ _ _ _ _ _; rw [VZ.out]; exact OS.out.2⟩
          case measure => simp [intOf]; omega
        · go_simp
          refine (KX.out _ DR.out).mono ?_
          rintro e wn0 ⟨rfl, rfl⟩
          refine hK.out _ _ DR.out (fun _ => ?_)
          clear hK
          refine wpAnyH_ready (rs := [1, 10]) (by kernel_rfl) (by simp) ?_
          refine AllReadyH.cons rfl (fun K hK => ?_) (AllReadyH.cons rfl (fun K hK => ?_) AllReadyH.nil)
          · go_simp
            refine hK.out _ _ DR.out (fun _ => ?_)
            clear hK
            refine wpAnyH_ready (rs := [10]) (by kernel_rfl) (by simp) ?_
            refine AllReadyH.cons rfl (fun K hK => ?_) AllReadyH.nil
            go_simp
            refine hK.out _ _ (DA.out _) (fun _ => ?_)
            clear hK
            refine wpAnyH_ready (rs := [11]) (by kernel_rfl) (by simp) ?_
            refine AllReadyH.cons rfl (fun K hK => ?_) AllReadyH.nil
            refine step_append_at (base := w2.heap.size) _ rfl _ _ rfl (.slice xo zs.length yo) (.slice (some ⟨wn0.heap.size, 0, none⟩) 1 1) rfl rfl zs.length zs [(fx : Int)] (OA.out _) RN.out (by simpa using UZ.out) (HSZ.out _) ?_
            intro v' w9 ho' hg hat'
            have ho9 : w9.ownsRow w2.heap.size 3 1 v' (zs.length + 1) ((zs ++ [(fx : Int)]).map (Value.int .i64)) := ho'
            have OS := hideP (LQ.out.step hg ho9 (by simpa using hat'))
            have S9 : Hid (Below w2.heap.size w2 w9) := (DA.out _).grown hg (HSZ.out _) (fun k hk => (LQ.out.d.lt k hk).1)
            obtain ⟨x9, y9, e9⟩ := owns_form ho9
            subst e9
            have hs9 : w3.heap.size + 1 < w9.heap.size := (Array.getElem?_eq_some_iff.1 OS.out.1).1
            have p9 : w9.cell? ⟨w3.heap.size + 1, 1, none⟩ = some (.slice xo zs.length yo) := cell_blk OS.out.1
            have f9 : w9.frozen? ⟨w3.heap.size + 1, 1, none⟩ = false := frozen_blk OS.out.1
            clear ho' ho9 hg hat'
            refine hK.out _ _ S9.out (fun _ => ?_)
            clear hK
            refine wpAnyH_ready (rs := [12]) (by kernel_rfl) (by simp) ?_
            refine AllReadyH.cons rfl (fun K hK => ?_) AllReadyH.nil
            go_simp
            refine hK.out _ _ S9.out (fun _ => ?_)
            clear hK
            refine wpAnyH_ready (rs := [13]) (by kernel_rfl) (by simp) ?_
            refine AllReadyH.cons rfl (fun K hK => ?_) AllReadyH.nil
            go_simp
            refine hK.out _ _ (S9.out.setCell LQ.out.le _) (fun _ => ?_)
            clear hK
            refine wpAnyH_done (by kernel_rfl) ?_ _
            clear p9 f9
            go_wp2_with fail
            go_roundw
            case rel => exact ⟨k + 1, by omega, by go_num, _, by show Lp _ _ _ _ _ _ _; rw [VZ.out]; exact OS.out.2⟩
            case measure => simp [intOf]; omega
          · go_simp
            refine hK.out _ _ (DA.out _) (fun _ => ?_)
            clear hK
            refine wpAnyH_ready (rs := [1]) (by kernel_rfl) (by simp) ?_
            refine AllReadyH.cons rfl (fun K hK => ?_) AllReadyH.nil
            go_simp
            refine hK.out _ _ (DA.out _) (fun _ => ?_)
            clear hK
            refine wpAnyH_ready (rs := [11]) (by kernel_rfl) (by simp) ?_
            refine AllReadyH.cons rfl (fun K hK => ?_) AllReadyH.nil
            refine step_append_at (base := w2.heap.size) _ rfl _ _ rfl (.slice xo zs.length yo) (.slice (some ⟨wn0.heap.size, 0, none⟩) 1 1) rfl rfl zs.length zs [(fx : Int)] (OA.out _) RN.out (by simpa using UZ.out) (HSZ.out _) ?_
            intro v' w9 ho' hg hat'
            have ho9 : w9.ownsRow w2.heap.size 3 1 v' (zs.length + 1) ((zs ++ [(fx : Int)]).map (Value.int .i64)) := ho'
            have OS := hideP (LQ.out.step hg ho9 (by simpa using hat'))
            have S9 : Hid (Below w2.heap.size w2 w9) := (DA.out _).grown hg (HSZ.out _) (fun k hk => (LQ.out.d.lt k hk).1)
            obtain ⟨x9, y9, e9⟩ := owns_form ho9
            subst e9
            have hs9 : w3.heap.size + 1 < w9.heap.size := (Array.getElem?_eq_some_iff.1 OS.out.1).1
            have p9 : w9.cell? ⟨w3.heap.size + 1, 1, none⟩ = some (.slice xo zs.length yo) := cell_blk OS.out.1
            have f9 : w9.frozen? ⟨w3.heap.size + 1, 1, none⟩ = false := frozen_blk OS.out.1
            clear ho' ho9 hg hat'
            refine hK.out _ _ S9.out (fun _ => ?_)
            clear hK
            refine wpAnyH_ready (rs := [12]) (by kernel_rfl) (by simp) ?_
            refine AllReadyH.cons rfl (fun K hK => ?_) AllReadyH.nil
            go_simp
            refine hK.out _ _ S9.out (fun _ => ?_)
            clear hK
            refine wpAnyH_ready (rs := [13]) (by kernel_rfl) (by simp) ?_
            refine AllReadyH.cons rfl (fun K hK => ?_) AllReadyH.nil
            go_simp
            refine hK.out _ _ (S9.out.setCell LQ.out.le _) (fun _ => ?_)
            clear hK
            refine wpAnyH_done (by kernel_rfl) ?_ _
            clear p9 f9
            go_wp2_with fail
            go_roundw
            case rel => exact ⟨k + 1, by omega, by go_num, _, by show Lp _ _ _ _ _ _ _; rw [VZ.out]; exact OS.out.2⟩
            case measure => simp [intOf]; omega
      · have km : k = ldb := by omega
        subst km
        rw [TL.out] at hL
        obtain ⟨xo, yo, eo⟩ := owns_form hL.out.d
        subst eo
        have p0 : wr.cell? ⟨w3.heap.size + 1, 0, none⟩ = some (.slice xc lsb yc) := cell_blk hL.out.blk
        have p1 : wr.cell? ⟨w3.heap.size + 1, 1, none⟩ = some (.slice xo D.length yo) := cell_blk hL.out.blk
        have hPr : w3.heap.size + 1 < wr.heap.size := (Array.getElem?_eq_some_iff.1 hL.out.blk).1
        have hsr := WR.out.2.1
        have r0 := WR.out.2.2.2.1.1
        have r1 := WR.out.2.2.2.1.2.1
        have f2 := WR.out.2.2.2.1.2.2
        go_wp2_with fail
        refine bodyPost_ret (v := .tuple #[.agg #[.slice xc lsb yc, .slice xo D.length yo], .int .i64 0]) (by simp [results, Try.results24, go_sem, r0, r1]) rfl ⟨(WR.out.1.setCell (by simp; omega) _).setCell (by simp; omega) _, _, _, rfl, ?_, ?_, ?_⟩
        · have := own_of_any hL.out.c
          exact Own.base (Own.store (Own.store this (by omega) _) (by omega) _) (by omega)
        · exact Own.base (Own.store (Own.store (own_of_any hL.out.d) (by omega) _) (by omega) _) (by omega)
        · exact .inr (.inr fun b e0 e1 => hL.out.ap b e0 e1)
  · rw [if_neg hsa] at e
    simp only [Prod.mk.injEq] at e
    obtain ⟨rfl, rfl, rfl⟩ := e
    have t1 : ((sa.length : Int) != 1) = true := by rw [bne_iff_ne]; omega
    clear h0 h1 h2 h3 oka okb hres hsa H0 H1 H2 H3 Hlda
    generalize sa.length = lsa at *
    generalize da.length = lda at *
    generalize sb.length = lsb at *
    generalize db.length = ldb at *
    go_enter Try.func24, Try.ntmps24
    go_wp2_with fail
    refine (KA.out _ (B.out _ _ _)).mono ?_
    rintro e w1 ⟨rfl, hb1⟩
    have W1 := hideP (W0.out.keep hb1)
    clear hb1
    have c2 := W1.out.2.2.1.2.2.1
    have c3 := W1.out.2.2.1.2.2.2
    go_wp2_with fail
    clear c2 c3
    refine (KB.out _ W1.out.1).mono ?_
    rintro e w2 ⟨rfl, hb2⟩
    have W2 := hideP (W1.out.keep hb2)
    clear hb2
    have c0 := W2.out.2.2.1.1
    have hsq := W2.out.2.1
    have r0 := W2.out.2.2.2.1.1
    have r1 := W2.out.2.2.2.1.2.1
    have f2 := W2.out.2.2.2.1.2.2
    go_wp2_with fail
    refine bodyPost_ret (v := .tuple #[.agg #[.slice none 0 0, .slice none 0 0], .int .i64 2]) (by simp [results, Try.results24, go_sem, r0, r1]) rfl ⟨(W2.out.1.setCell (by simp; omega) _).setCell (by simp; omega) _, _, _, rfl, Own.nil _ _, Own.nil _ _, .inl rfl⟩

set_option maxRecDepth 100000 in
set_option maxHeartbeats 8000000 in
/-- spec.Dyad with the number 7 -/
theorem specD_7 (b0 b1 b2 b3 : Nat) (sa da sb db : List Int) (w : World) (hl0 : sa.length ≤ 1048576) (hl1 : da.length ≤ 1048576) (hl2 : sb.length ≤ 1048576) (hl3 : db.length ≤ 1048576) (h0 : Rd w.heap.size w (.slice (some ⟨b0, 0, none⟩) sa.length sa.length) sa) (h1 : Rd w.heap.size w (.slice (some ⟨b1, 0, none⟩) da.length da.length) da) (h2 : Rd w.heap.size w (.slice (some ⟨b2, 0, none⟩) sb.length sb.length) sb) (h3 : Rd w.heap.size w (.slice (some ⟨b3, 0, none⟩) db.length db.length) db) (oka : Pl.okB sa da = true) (okb : Pl.okB sb db = true) :
    Calls Try.prog 24 #[.int .i64 7, .agg #[.slice (some ⟨b0, 0, none⟩) sa.length sa.length, .slice (some ⟨b1, 0, none⟩) da.length da.length], .agg #[.slice (some ⟨b2, 0, none⟩) sb.length sb.length, .slice (some ⟨b3, 0, none⟩) db.length db.length]] w (FPost w 0 [] [Pl.boolM (decide (sa = sb) && decide (da = db))]) := by
  have B : Hid (∀ o o' o'', Below w.heap.size w (((w.alloc o).alloc o').alloc o'')) := fun o o' o'' => below3 w o o' o''
  have H0 := hideP h0
  have H1 := hideP h1
  have H2 := hideP h2
  have H3 := hideP h3
  have KA : Hid (∀ w', Below w.heap.size w w' → Calls Try.prog 12 #[.agg #[.slice (some ⟨b0, 0, none⟩) sa.length sa.length, .slice (some ⟨b1, 0, none⟩) da.length da.length]] w' fun e w'' => e = .returned (.bool (Pl.okB sa da)) ∧ Below w'.heap.size w' w'') := fun w' h => specOk_any _ _ sa da w' hl0 hl1 ((H0.out.keep h).up h.size) ((H1.out.keep h).up h.size)
  have KB : Hid (∀ w', Below w.heap.size w w' → Calls Try.prog 12 #[.agg #[.slice (some ⟨b2, 0, none⟩) sb.length sb.length, .slice (some ⟨b3, 0, none⟩) db.length db.length]] w' fun e w'' => e = .returned (.bool (Pl.okB sb db)) ∧ Below w'.heap.size w' w'') := fun w' h => specOk_any _ _ sb db w' hl2 hl3 ((H2.out.keep h).up h.size) ((H3.out.keep h).up h.size)
  have W0 := hideP (wid_new w h0 h1 h2 h3 27 27 27)
  rw [oka] at KA
  rw [okb] at KB
  have K1 : Hid (∀ w', Below w.heap.size w w' → Calls Try.prog 67 #[.slice (some ⟨b0, 0, none⟩) sa.length sa.length, .slice (some ⟨b2, 0, none⟩) sb.length sb.length] w' fun e w'' => e = .returned (.bool (decide (sa = sb))) ∧ Below w'.heap.size w' w'') := fun w' h => l2Same_any _ _ sa sb w' hl0 hl2 ((H0.out.keep h).up h.size) ((H2.out.keep h).up h.size)
  have K2 : Hid (∀ w', Below w.heap.size w w' → Calls Try.prog 67 #[.slice (some ⟨b1, 0, none⟩) da.length da.length, .slice (some ⟨b3, 0, none⟩) db.length db.length] w' fun e w'' => e = .returned (.bool (decide (da = db))) ∧ Below w'.heap.size w' w'') := fun w' h => l2Same_any _ _ da db w' hl1 hl3 ((H1.out.keep h).up h.size) ((H3.out.keep h).up h.size)
  clear h0 h1 h2 h3 oka okb H0 H1 H2 H3 hl0 hl1 hl2 hl3
  obtain ⟨p, hp⟩ : ∃ p, decide (sa = sb) = p := ⟨_, rfl⟩
  obtain ⟨q, hq⟩ : ∃ q, decide (da = db) = q := ⟨_, rfl⟩
  rw [hp] at K1 ⊢
  rw [hq] at K2 ⊢
  clear hp hq
  generalize sa.length = lsa at *
  generalize da.length = lda at *
  generalize sb.length = lsb at *
  generalize db.length = ldb at *
  have A1 : Hid (∀ (W : World) o, Below W.heap.size W (W.alloc o)) := fun W o => (Below.refl _ _).alloc (Nat.le_refl _) _
  cases p with
  | false =>
    rw [Bool.false_and]
    go_enter Try.func24, Try.ntmps24
    go_wp2_with fail
    refine (KA.out _ (B.out _ _ _)).mono ?_
    rintro e w1 ⟨rfl, hb1⟩
    have W1 := hideP (W0.out.keep hb1)
    clear hb1
    have c2 := W1.out.2.2.1.2.2.1
    have c3 := W1.out.2.2.1.2.2.2
    go_wp2_with fail
    clear c2 c3
    refine (KB.out _ W1.out.1).mono ?_
    rintro e w2 ⟨rfl, hb2⟩
    have W2 := hideP (W1.out.keep hb2)
    clear hb2
    have c0 := W2.out.2.2.1.1
    have c2 := W2.out.2.2.1.2.2.1
    have hs2 := W2.out.2.1
    have lt0 : w.heap.size < w2.heap.size := by omega
    have lt1 : w.heap.size + 1 < w2.heap.size := by omega
    have c0' : (w2.alloc (.cells #[] 3)).cell? ⟨w.heap.size, 0, none⟩ = some (.slice (some ⟨b0, 0, none⟩) lsa lsa) := ((A1.out w2 _).cell (p := ⟨w.heap.size, 0, none⟩) lt0).trans c0
    have c2' : (w2.alloc (.cells #[] 3)).cell? ⟨w.heap.size + 1, 0, none⟩ = some (.slice (some ⟨b2, 0, none⟩) lsb lsb) := ((A1.out w2 _).cell (p := ⟨w.heap.size + 1, 0, none⟩) lt1).trans c2
    go_wp2_with fail
    clear c0' c2'
    refine (K1.out _ (W2.out.1.trans ((A1.out _ _).mono W2.out.1.size))).mono ?_
    rintro e w3 ⟨rfl, hb3⟩
    have B3 := hideP ((A1.out w2 (.cells #[] 3)).trans (hb3.mono (by simp)))
    clear hb3 c0 c2
    have W3 := hideP (W2.out.keep B3.out)
    have hs3 := W3.out.2.1
    obtain ⟨bv, hbv⟩ : ∃ bv : Int, (if false = true then (1 : Int) else 0) = bv := ⟨_, rfl⟩
    have HB : Hid (Pl.boolM false = bv) := hbv
    have KBo : Hid (∀ W, Calls Try.prog 66 #[.bool false] W fun e w' => e = .returned (.int .i64 bv) ∧ w' = W) := fun W => by have := l2Bool_any false W; rw [hbv] at this; exact this
    clear hbv
    have r0 := W3.out.2.2.2.1.1
    have r1 := W3.out.2.2.2.1.2.1
    have f2 := W3.out.2.2.2.1.2.2
    have ne2 : ¬ w.heap.size + 1 + 1 = w3.heap.size := by omega
    go_wp2_with (go_at_call 66; refine (KBo.out _).mono ?_; rintro e w3 ⟨rfl, rfl⟩)
    have lt2 : w.heap.size + 1 + 1 < w3.heap.size := by omega
    have BF : Hid (Below w.heap.size w (((w3.setCell ⟨w.heap.size + 1 + 1, 0, none⟩ (.slice (some ⟨w2.heap.size, 0, none⟩) 0 0)).setCell ⟨w.heap.size + 1 + 1, 1, none⟩ (.slice (some ⟨w3.heap.size, 0, none⟩) 1 1)).alloc (.cells #[.int .i64 bv] 3))) := ((W3.out.1.setCell (by simp; omega) _).setCell (by simp; omega) _).alloc (by simp; omega) _
    have OD : Hid (Own w.heap.size (((w3.setCell ⟨w.heap.size + 1 + 1, 0, none⟩ (.slice (some ⟨w2.heap.size, 0, none⟩) 0 0)).setCell ⟨w.heap.size + 1 + 1, 1, none⟩ (.slice (some ⟨w3.heap.size, 0, none⟩) 1 1)).alloc (.cells #[.int .i64 bv] 3)) (.slice (some ⟨w3.heap.size, 0, none⟩) 1 1) [bv]) := by
      have h := own_lit ((w3.setCell ⟨w.heap.size + 1 + 1, 0, none⟩ (.slice (some ⟨w2.heap.size, 0, none⟩) 0 0)).setCell ⟨w.heap.size + 1 + 1, 1, none⟩ (.slice (some ⟨w3.heap.size, 0, none⟩) 1 1)) _ bv (Below.refl _ _)
      have e : ((w3.setCell ⟨w.heap.size + 1 + 1, 0, none⟩ (.slice (some ⟨w2.heap.size, 0, none⟩) 0 0)).setCell ⟨w.heap.size + 1 + 1, 1, none⟩ (.slice (some ⟨w3.heap.size, 0, none⟩) 1 1)).heap.size = w3.heap.size := by simp
      rw [e] at h
      exact h.base (by omega)
    rw [HB.out]
    refine bodyPost_ret (v := .tuple #[.agg #[.slice (some ⟨w2.heap.size, 0, none⟩) 0 0, .slice (some ⟨w3.heap.size, 0, none⟩) 1 1], .int .i64 0]) (by simp [results, Try.results24, go_sem, r0, r1, lt2]) rfl ⟨BF.out, _, _, rfl, ⟨_, _, rfl, .inl rfl⟩, OD.out, .inl rfl⟩
  | true =>
    rw [Bool.true_and]
    go_enter Try.func24, Try.ntmps24
    go_wp2_with fail
    refine (KA.out _ (B.out _ _ _)).mono ?_
    rintro e w1 ⟨rfl, hb1⟩
    have W1 := hideP (W0.out.keep hb1)
    clear hb1
    have c2 := W1.out.2.2.1.2.2.1
    have c3 := W1.out.2.2.1.2.2.2
    go_wp2_with fail
    clear c2 c3
    refine (KB.out _ W1.out.1).mono ?_
    rintro e w2 ⟨rfl, hb2⟩
    have W2 := hideP (W1.out.keep hb2)
    clear hb2
    have c0 := W2.out.2.2.1.1
    have c2 := W2.out.2.2.1.2.2.1
    have hs2 := W2.out.2.1
    have lt0 : w.heap.size < w2.heap.size := by omega
    have lt1 : w.heap.size + 1 < w2.heap.size := by omega
    have c0' : (w2.alloc (.cells #[] 3)).cell? ⟨w.heap.size, 0, none⟩ = some (.slice (some ⟨b0, 0, none⟩) lsa lsa) := ((A1.out w2 _).cell (p := ⟨w.heap.size, 0, none⟩) lt0).trans c0
    have c2' : (w2.alloc (.cells #[] 3)).cell? ⟨w.heap.size + 1, 0, none⟩ = some (.slice (some ⟨b2, 0, none⟩) lsb lsb) := ((A1.out w2 _).cell (p := ⟨w.heap.size + 1, 0, none⟩) lt1).trans c2
    go_wp2_with fail
    clear c0' c2'
    refine (K1.out _ (W2.out.1.trans ((A1.out _ _).mono W2.out.1.size))).mono ?_
    rintro e w2b ⟨rfl, hb3⟩
    have B2b := hideP ((A1.out w2 (.cells #[] 3)).trans (hb3.mono (by simp)))
    have W2b := hideP (W2.out.keep B2b.out)
    clear hb3 c0 c2
    have c1 := W2b.out.2.2.1.2.1
    have c3 := W2b.out.2.2.1.2.2.2
    go_wp2_with fail
    refine (K2.out _ W2b.out.1).mono ?_
    rintro e w3 ⟨rfl, hb3⟩
    have B3 := hideP (B2b.out.trans (hb3.mono B2b.out.size))
    clear hb3 c1 c3
    have W3 := hideP (W2.out.keep B3.out)
    have hs3 := W3.out.2.1
    obtain ⟨bv, hbv⟩ : ∃ bv : Int, (if q = true then (1 : Int) else 0) = bv := ⟨_, rfl⟩
    have HB : Hid (Pl.boolM q = bv) := hbv
    have KBo : Hid (∀ W, Calls Try.prog 66 #[.bool q] W fun e w' => e = .returned (.int .i64 bv) ∧ w' = W) := fun W => by have := l2Bool_any q W; rw [hbv] at this; exact this
    clear hbv
    have r0 := W3.out.2.2.2.1.1
    have r1 := W3.out.2.2.2.1.2.1
    have f2 := W3.out.2.2.2.1.2.2
    have ne2 : ¬ w.heap.size + 1 + 1 = w3.heap.size := by omega
    go_wp2_with (go_at_call 66; refine (KBo.out _).mono ?_; rintro e w3 ⟨rfl, rfl⟩)
    have lt2 : w.heap.size + 1 + 1 < w3.heap.size := by omega
    have BF : Hid (Below w.heap.size w (((w3.setCell ⟨w.heap.size + 1 + 1, 0, none⟩ (.slice (some ⟨w2.heap.size, 0, none⟩) 0 0)).setCell ⟨w.heap.size + 1 + 1, 1, none⟩ (.slice (some ⟨w3.heap.size, 0, none⟩) 1 1)).alloc (.cells #[.int .i64 bv] 3))) := ((W3.out.1.setCell (by simp; omega) _).setCell (by simp; omega) _).alloc (by simp; omega) _
    have OD : Hid (Own w.heap.size (((w3.setCell ⟨w.heap.size + 1 + 1, 0, none⟩ (.slice (some ⟨w2.heap.size, 0, none⟩) 0 0)).setCell ⟨w.heap.size + 1 + 1, 1, none⟩ (.slice (some ⟨w3.heap.size, 0, none⟩) 1 1)).alloc (.cells #[.int .i64 bv] 3)) (.slice (some ⟨w3.heap.size, 0, none⟩) 1 1) [bv]) := by
      have h := own_lit ((w3.setCell ⟨w.heap.size + 1 + 1, 0, none⟩ (.slice (some ⟨w2.heap.size, 0, none⟩) 0 0)).setCell ⟨w.heap.size + 1 + 1, 1, none⟩ (.slice (some ⟨w3.heap.size, 0, none⟩) 1 1)) _ bv (Below.refl _ _)
      have e : ((w3.setCell ⟨w.heap.size + 1 + 1, 0, none⟩ (.slice (some ⟨w2.heap.size, 0, none⟩) 0 0)).setCell ⟨w.heap.size + 1 + 1, 1, none⟩ (.slice (some ⟨w3.heap.size, 0, none⟩) 1 1)).heap.size = w3.heap.size := by simp
      rw [e] at h
      exact h.base (by omega)
    rw [HB.out]
    refine bodyPost_ret (v := .tuple #[.agg #[.slice (some ⟨w2.heap.size, 0, none⟩) 0 0, .slice (some ⟨w3.heap.size, 0, none⟩) 1 1], .int .i64 0]) (by simp [results, Try.results24, go_sem, r0, r1, lt2]) rfl ⟨BF.out, _, _, rfl, ⟨_, _, rfl, .inl rfl⟩, OD.out, .inl rfl⟩

end Go.Proofs.Ytmobjomebmipdaa
