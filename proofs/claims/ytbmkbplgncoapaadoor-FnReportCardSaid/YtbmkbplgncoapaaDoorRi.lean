import Derived.Test.YtbmkbplgncoapaaDoorRs
namespace Go.Proofs.YtbmkbplgncoapaaDoor
open Go.RowKit Go.Sort
set_option linter.unusedVariables false

/-- a variable that is no row of bytes, behind a write -/
theorem kept_var {b c : Nat} {w w' : World} {x y : Value} {t : TypeId} (h : w.heap[c]? = some (.cells #[x, y] t (0, 0))) (hk : Lib.OthersKept 5 (some b) w w') (hne : ¬ c = b ∧ ¬ t = 5) : w'.cell? ⟨c, 0, none⟩ = some x ∧ w'.cell? ⟨c, 1, none⟩ = some y := by
  have e := hk c _ h (by simp [hne.1]) (by intro c' fz hh; injection hh with _ h2 _; exact hne.2 h2)
  exact ⟨by rw [Lib.cell_of_heap e]; rfl, by rw [Lib.cell_of_heap e]; rfl⟩

theorem join2 (a b : ByteArray) : Lib.join ([a, b].map (·.data.toList)) [32] = a.data.toList ++ 32 :: b.data.toList := by
  rw [List.map_cons, Lib.join_cons]; simp [Lib.joinTail]
theorem join3 (a b c : ByteArray) : Lib.join ([a, b, c].map (·.data.toList)) [32] = a.data.toList ++ 32 :: (b.data.toList ++ 32 :: c.data.toList) := by
  rw [List.map_cons, Lib.join_cons]; simp [Lib.joinTail]
theorem join4 (a b c d : ByteArray) : Lib.join ([a, b, c, d].map (·.data.toList)) [32] = a.data.toList ++ 32 :: (b.data.toList ++ 32 :: (c.data.toList ++ 32 :: d.data.toList)) := by
  rw [List.map_cons, Lib.join_cons]; simp [Lib.joinTail]

set_option maxRecDepth 100000 in
set_option maxHeartbeats 16000000 in
/-- impl.Report -/
theorem implReport_any (id : ByteArray) (v : Value) (vs : List Pl.Vt) (w : World) (hid : id.size ≤ 1048576) (hl : vs.length ≤ 1048576) (ht : Tab w) (hkw : Kw w) (h : RdV w.heap.size w v vs) :
    Calls Tryd.prog 22 #[.string id, v] w fun e w' => e = .returned (.tuple #[.string (Pl.rep id vs), .bool (Pl.idB id && Pl.vsB vs)]) ∧ Below w.heap.size w w' := by
  have KV : Hid (∀ W, Below w.heap.size w W → Calls Tryd.prog 61 #[v] W fun e w' => e = .returned (.bool (Pl.vsB vs)) ∧ Below W.heap.size W w') := fun W hW => verdictsOk_any v vs W hl ((h.keep hW).up hW.size)
  have KD := hideP (idOk_any id w (by omega))
  have BR := hideP (Below.refl w.heap.size w)
  have HT := hideP ht
  have HK := hideP hkw
  clear ht hkw
  obtain ⟨ao, cap, rfl, hr⟩ := h
  cases hi : Pl.idB id with
  | false =>
    rw [hi] at KD
    have HN := hideP (rep_no (id := id) (vs := vs) (by rw [hi]; rfl))
    rw [HN.out]
    clear hi hr KV
    go_enter Tryd.func22, Tryd.ntmps22
    go_wp2_with fail
    refine KD.out.mono ?_
    rintro e w' ⟨rfl, rfl⟩
    go_wp2_with fail
    go_ret2
    exact ⟨rfl, BR.out⟩
  | true =>
    cases hv : Pl.vsB vs with
    | false =>
      rw [hi] at KD
      rw [hv] at KV
      have HN := hideP (rep_no (id := id) (vs := vs) (by rw [hi, hv]; rfl))
      rw [HN.out]
      clear hi hv hr
      go_enter Tryd.func22, Tryd.ntmps22
      go_wp2_with fail
      refine KD.out.mono ?_
      rintro e w' ⟨rfl, rfl⟩
      go_wp2_with fail
      refine (KV.out _ BR.out).mono ?_
      rintro e w1 ⟨rfl, hb1⟩
      have B1 := hideP hb1
      clear hb1
      go_wp2_with fail
      go_ret2
      exact ⟨rfl, B1.out⟩
    | true =>
      rw [hi] at KD
      rw [hv] at KV
      have hsz : id.size ≤ 20 := by
        unfold Pl.idB at hi
        rw [Bool.and_eq_true] at hi
        exact (of_decide_eq_true hi.1).2
      have hn20 : vs.length ≤ 20 := by
        unfold Pl.vsB at hv
        rw [Bool.and_eq_true] at hv
        exact of_decide_eq_true hv.1
      have HALL : Hid (Pl.vsAll vs = true) := by
        unfold Pl.vsB at hv
        rw [Bool.and_eq_true] at hv
        exact hv.2
      have HREP : Hid (Pl.rep id vs = ⟨(Pl.repL id.data.toList vs).toArray⟩) := by show _ = _; unfold Pl.rep; rw [if_pos (by rw [hi, hv]; rfl)]
      have HR := hideP hr
      have HHEAD : Hid ((Pl.headL id.data.toList).length ≤ 29) := by
        show _ ≤ _
        unfold Pl.headL
        simp only [List.length_append, List.length_cons, List.length_nil, Array.length_toList]
        have : id.data.size = id.size := rfl
        omega
      have HLNS : Hid (∀ k, k ≤ vs.length → (Pl.lnsK vs k).length ≤ 1200) := fun k hk => by have := Pl.lns_len HALL.out k hk hn20; omega
      clear hi hv hr
      obtain ⟨n, hn⟩ : ∃ n, vs.length = n := ⟨_, rfl⟩
      have Hn := hideP hn
      rw [hn] at hn20 HR hl KV HLNS ⊢
      clear hn
      go_enter Tryd.func22, Tryd.ntmps22
      go_wp2_with fail
      refine KD.out.mono ?_
      rintro e w0 ⟨rfl, rfl⟩
      go_wp2_with fail
      refine (KV.out _ BR.out).mono ?_
      rintro e w1 ⟨rfl, hb1⟩
      have AL1 : Hid (Below w1.heap.size w1 (w1.alloc (.cells #[.pointer none, .slice none 0 0] 86))) := (Below.refl _ _).alloc (Nat.le_refl _) _
      have AL2 : Hid (Below (w1.alloc (.cells #[.pointer none, .slice none 0 0] 86)).heap.size (w1.alloc (.cells #[.pointer none, .slice none 0 0] 86)) ((w1.alloc (.cells #[.pointer none, .slice none 0 0] 86)).alloc (.cells #[.string ⟨#[115, 116, 117, 100, 101, 110, 116]⟩, .string id] 9))) := (Below.refl _ _).alloc (Nat.le_refl _) _
      have T2 := hideP ((Tx.new w1).keep AL2.out)
      have B2 := hideP ((hb1.trans (AL1.out.mono hb1.size)).trans (AL2.out.mono (Nat.le_trans hb1.size AL1.out.size)))
      have HB := hideP hb1.size
      have CC2 : Hid (∀ (j : Nat) x, [(⟨#[115, 116, 117, 100, 101, 110, 116]⟩ : ByteArray), id][j]? = some x → ((w1.alloc (.cells #[.pointer none, .slice none 0 0] 86)).alloc (.cells #[.string ⟨#[115, 116, 117, 100, 101, 110, 116]⟩, .string id] 9)).cell? ⟨w1.heap.size + 1, j, none⟩ = some (.string x)) := fun j x hj => by
        match j, hj with
        | 0, hj => simp at hj; subst hj; simp [go_sem]
        | 1, hj => simp at hj; subst hj; simp [go_sem]
        | j + 2, hj => simp at hj
      clear hb1 KD KV AL1 AL2
      go_wp2_with fail
      refine (add_any w1.heap.size w1.heap.size (w1.heap.size + 1) 2 [] [⟨#[115, 116, 117, 100, 101, 110, 116]⟩, id] _ T2.out (by simp; omega) (by simp) (by simp) (by simp) CC2.out (by rw [join2]; simp only [List.length_append, List.length_cons, Array.length_toList]; have : id.data.size = id.size := rfl; simp; omega)).mono ?_
      rintro e w2 ⟨rfl, t3, hb3, _⟩
      obtain ⟨B, hBB⟩ : ∃ B, w1.heap.size = B := ⟨_, rfl⟩
      have T3 : Hid (Tx B B (Pl.headL id.data.toList ++ Pl.lnsK vs 0) w2) := by
        rw [join2, hBB] at t3
        have e : ([] : List UInt8) ++ ((⟨#[115, 116, 117, 100, 101, 110, 116]⟩ : ByteArray).data.toList ++ 32 :: id.data.toList) ++ [10] = Pl.headL id.data.toList ++ Pl.lnsK vs 0 := by simp [Pl.headL, Pl.lnsK]
        rw [e] at t3
        exact t3
      have B3 := hideP (B2.out.trans (hb3.mono HB.out))
      rw [hBB] at HB ⊢
      clear t3 hb3 T2 B2 CC2 hBB
      go_wp2_with fail
      go_loopw [6, 23] (fun p i wr => ∃ k : Nat, k ≤ n ∧ i = .int .i64 (k : Int) ∧ p = .int .i64 (Pl.passK vs k : Int) ∧ Hid (Tx B B (Pl.headL id.data.toList ++ Pl.lnsK vs k) wr) ∧ Hid (Below w0.heap.size w0 wr)) (fun _ i _ => n - (intOf i).toNat)
      case atStart => exact ⟨0, Nat.zero_le _, rfl, rfl, T3, B3⟩
      case round =>
        obtain ⟨k, hk, rfl, rfl, hTx, BB⟩ := hrel
        clear T3 B3
        have hp := Pl.passK_le vs k
        by_cases hlt : k < n
        · have hlt' : (k : Int) < (n : Int) := by omega
          rcases HR.out with h0' | ⟨b, off, hb, rfl, hc⟩
          · omega
          · have c0 : wr.cell? ⟨b, off + k * 2, none⟩ = some (.int .i64 (Pl.at2 vs k).1) := (BB.out.cell (p := ⟨b, off + k * 2, none⟩) hb).trans (hc k hlt).1
            have c1 : wr.cell? ⟨b, off + k * 2 + 1, none⟩ = some (.int .i64 (Pl.at2 vs k).2) := (BB.out.cell (p := ⟨b, off + k * 2 + 1, none⟩) hb).trans (hc k hlt).2
            have hvb := Pl.vsAll_at HALL.out (k := k) (by rw [Hn.out]; exact hlt)
            have HP : Hid (Pl.passK vs (k + 1) = Pl.passK vs k + (if (Pl.at2 vs k).1 = 1 then 1 else 0)) := rfl
            have HLN : Hid (Pl.headL id.data.toList ++ Pl.lnsK vs k ++ Lib.join ([(⟨#[116, 101, 115, 116]⟩ : ByteArray), wrd ((k : Int) + 1), Pl.word (Pl.at2 vs k).1 (Pl.at2 vs k).2].map (·.data.toList)) [32] ++ [10] = Pl.headL id.data.toList ++ Pl.lnsK vs (k + 1)) := by
              show _ = _
              rw [join3, Pl.lnsK]
              unfold Pl.lineL Pl.word wrd
              simp
            have HLEN : Hid ((Pl.headL id.data.toList ++ Pl.lnsK vs k).length + (Lib.join ([(⟨#[116, 101, 115, 116]⟩ : ByteArray), wrd ((k : Int) + 1), Pl.word (Pl.at2 vs k).1 (Pl.at2 vs k).2].map (·.data.toList)) [32]).length ≤ 1000000) := by
              show _ ≤ _
              rw [join3]
              have h1 := HHEAD.out
              have h2 := HLNS.out k hk
              have h3 := Pl.word_len hvb
              have h4 := Lib.itoa_length_le ((k : Int) + 1) (by omega) (by omega)
              unfold Pl.word wrd
              simp only [List.length_append, List.length_cons, List.length_nil]
              omega
            have KI : Hid (∀ W, Tab W → Calls Tryd.prog 63 #[.int .i64 ((k : Int) + 1)] W fun e w' => e = .returned (.string (wrd ((k : Int) + 1))) ∧ Below W.heap.size W w') := fun W hW => itoa_any ((k : Int) + 1) W (by omega) (by omega) hW
            have KW : Hid (∀ W, Tab W → Kw W → Calls Tryd.prog 64 #[.agg #[.int .i64 (Pl.at2 vs k).1, .int .i64 (Pl.at2 vs k).2]] W fun e w' => e = .returned (.string (Pl.word (Pl.at2 vs k).1 (Pl.at2 vs k).2)) ∧ Below W.heap.size W w') := fun W h1 h2 => verdictWord_any _ _ W hvb h1 h2
            clear hc hvb
            generalize Pl.at2 vs k = t at *
            obtain ⟨tk, tc⟩ := t
            simp only at c0 c1 HP HLN HLEN KI KW
            generalize wrd ((k : Int) + 1) = sd at *
            generalize Pl.word tk tc = sw at *
            have ALr : Hid (Below wr.heap.size wr (wr.alloc (.cells #[.int .i64 tk, .int .i64 tc] 78)).drew) := ((Below.refl _ _).alloc (Nat.le_refl _) _).drew
            have B2 := hideP (BB.out.trans (ALr.out.mono BB.out.size))
            have T2 := hideP (hTx.out.keep ALr.out)
            have L2 : Hid (wr.heap.size < (wr.alloc (.cells #[.int .i64 tk, .int .i64 tc] 78)).drew.heap.size) := by show _ < (wr.alloc _).heap.size; simp
            have H2 : Hid ((wr.alloc (.cells #[.int .i64 tk, .int .i64 tc] 78)).drew.heap[wr.heap.size]? = some (.cells #[.int .i64 tk, .int .i64 tc] 78 (0, 0))) := heap_alloc_new wr _
            have C2 : Hid ((wr.alloc (.cells #[.int .i64 tk, .int .i64 tc] 78)).drew.cell? ⟨wr.heap.size, 0, none⟩ = some (.int .i64 tk) ∧ (wr.alloc (.cells #[.int .i64 tk, .int .i64 tc] 78)).drew.cell? ⟨wr.heap.size, 1, none⟩ = some (.int .i64 tc)) := ⟨by rw [Lib.cell_of_heap H2.out]; rfl, by rw [Lib.cell_of_heap H2.out]; rfl⟩
            have NE : Hid (¬ wr.heap.size = B ∧ ¬ (78 : TypeId) = 5) := ⟨by have := hTx.out.lt; omega, by decide⟩
            go_wp2_with fail
            refine wp_region_held (S := fun W => W.cell? ⟨wr.heap.size, 0, none⟩ = some (.int .i64 tk) ∧ W.cell? ⟨wr.heap.size, 1, none⟩ = some (.int .i64 tc)) (by kernel_rfl) ?_
            change wpAnyH _ _ _ _ _ _ _ _ (World.drew _)
            refine wpAnyH_take (i := 0) (v := .int .i64 (k : Int)) rfl (by kernel_rfl) (by kernel_rfl) (by kernel_rfl) (fun _ _ _ h => h) (Or.inl ⟨by rfl, ?_⟩) C2.out ?_
            · intro w' hS
              clear hS
              go_simp
            refine wpAnyH_take (i := 1) (v := .int .i64 ((k : Int) + 1)) rfl (by kernel_rfl) (by kernel_rfl) (by kernel_rfl) (fun _ _ _ h => h) (Or.inl ⟨by rfl, ?_⟩) C2.out ?_
            · intro w' hS
              clear hS
              go_simp
              rw [IntKind.wrap_i64]
              omega
            refine wpAnyH_take (i := 3) (v := .agg #[.int .i64 tk, .int .i64 tc]) rfl (by kernel_rfl) (by kernel_rfl) (by kernel_rfl) (fun _ _ _ h => h) (Or.inl ⟨by rfl, ?_⟩) C2.out ?_
            · intro w' hS
              obtain ⟨y0, y1⟩ := hS
              go_simp
            generalize (wr.alloc (.cells #[.int .i64 tk, .int .i64 tc] 78)).drew = w2 at *
            refine wpAnyH_ready (rs := [2]) (by kernel_rfl) (by simp) ?_
            refine AllReadyH.cons rfl (fun K hK => ?_) AllReadyH.nil
            go_simp
            have ht2 := hideP (HT.out.keep B2.out)
            refine (KI.out _ ht2.out).mono ?_
            rintro e w3 ⟨rfl, hb3⟩
            have B3 := hideP (B2.out.trans (hb3.mono B2.out.size))
            have T3 := hideP (T2.out.keep hb3)
            have L3 := hideP (Nat.lt_of_lt_of_le L2.out hb3.size)
            have H3 := hideP ((hb3.block wr.heap.size L2.out).trans H2.out)
            have C3 := hideP (And.intro ((hb3.cell (p := ⟨wr.heap.size, 0, none⟩) L2.out).trans C2.out.1) ((hb3.cell (p := ⟨wr.heap.size, 1, none⟩) L2.out).trans C2.out.2))
            clear hb3
            refine hK.out _ _ C3.out (fun _ => ?_)
            clear hK
            refine wpAnyH_ready (rs := [4]) (by kernel_rfl) (by simp) ?_
            refine AllReadyH.cons rfl (fun K hK => ?_) AllReadyH.nil
            go_simp
            have ht3 := hideP (HT.out.keep B3.out)
            have hk3 := hideP (HK.out.keep B3.out)
            refine (KW.out _ ht3.out hk3.out).mono ?_
            rintro e w4 ⟨rfl, hb4⟩
            have B4 := hideP (B3.out.trans (hb4.mono B3.out.size))
            have T4 := hideP (T3.out.keep hb4)
            have L4 := hideP (Nat.lt_of_lt_of_le L3.out hb4.size)
            have H4 := hideP ((hb4.block wr.heap.size L3.out).trans H3.out)
            have C4 := hideP (And.intro ((hb4.cell (p := ⟨wr.heap.size, 0, none⟩) L3.out).trans C3.out.1) ((hb4.cell (p := ⟨wr.heap.size, 1, none⟩) L3.out).trans C3.out.2))
            clear hb4
            refine hK.out _ _ C4.out (fun _ => ?_)
            clear hK
            have T4' := T4
            have B4' := B4
            clear T4 B4
            refine wpAnyH_ready (rs := [5]) (by kernel_rfl) (by simp) ?_
            refine AllReadyH.cons rfl (fun K hK => ?_) AllReadyH.nil
            go_simp
            have AL4 : Hid (Below w4.heap.size w4 (w4.alloc (.cells #[.string ⟨#[116, 101, 115, 116]⟩, .string sd, .string sw] 9))) := (Below.refl _ _).alloc (Nat.le_refl _) _
            have S4' : (w4.alloc (.cells #[.string ⟨#[116, 101, 115, 116]⟩, .string sd, .string sw] 9)).cell? ⟨wr.heap.size, 0, none⟩ = some (.int .i64 tk) ∧ (w4.alloc (.cells #[.string ⟨#[116, 101, 115, 116]⟩, .string sd, .string sw] 9)).cell? ⟨wr.heap.size, 1, none⟩ = some (.int .i64 tc) := ⟨(AL4.out.cell (p := ⟨wr.heap.size, 0, none⟩) L4.out).trans C4.out.1, (AL4.out.cell (p := ⟨wr.heap.size, 1, none⟩) L4.out).trans C4.out.2⟩
            refine hK.out _ _ S4' (fun _ => ?_)
            clear hK S4'
            have T4 := hideP (T4'.out.keep AL4.out)
            have B4 := hideP (B4'.out.trans (AL4.out.mono B4'.out.size))
            have HC4 : Hid ((w4.alloc (.cells #[.string ⟨#[116, 101, 115, 116]⟩, .string sd, .string sw] 9)).heap[wr.heap.size]? = some (.cells #[.int .i64 tk, .int .i64 tc] 78 (0, 0))) := (AL4.out.block wr.heap.size L4.out).trans H4.out
            have CC : Hid (∀ (j : Nat) x, [(⟨#[116, 101, 115, 116]⟩ : ByteArray), sd, sw][j]? = some x → (w4.alloc (.cells #[.string ⟨#[116, 101, 115, 116]⟩, .string sd, .string sw] 9)).cell? ⟨w4.heap.size, j, none⟩ = some (.string x)) := fun j x hj => by
              match j, hj with
              | 0, hj => simp at hj; subst hj; simp [go_sem]
              | 1, hj => simp at hj; subst hj; simp [go_sem]
              | 2, hj => simp at hj; subst hj; simp [go_sem]
              | j + 3, hj => simp at hj
            have LG : Hid (w4.heap.size < (w4.alloc (.cells #[.string ⟨#[116, 101, 115, 116]⟩, .string sd, .string sw] 9)).heap.size) := by show _ < _; simp
            have BG : Hid (B ≤ (w4.alloc (.cells #[.string ⟨#[116, 101, 115, 116]⟩, .string sd, .string sw] 9)).heap.size) := Nat.le_of_lt (Nat.lt_of_le_of_lt T4.out.lt.1 T4.out.lt.2)
            refine wpAnyH_ready (rs := [6]) (by kernel_rfl) (by simp) ?_
            refine AllReadyH.cons rfl (fun K hK => ?_) AllReadyH.nil
            go_simp
            refine (add_any B B w4.heap.size 3 _ [⟨#[116, 101, 115, 116]⟩, sd, sw] _ T4.out BG.out LG.out (by simp) (by simp) CC.out HLEN.out).mono ?_
            intro e w5 had
            obtain ⟨rfl, t5, hb5, hk5⟩ := had
            have T5 : Hid (Tx B B (Pl.headL id.data.toList ++ Pl.lnsK vs (k + 1)) w5) := by
              rw [HLN.out] at t5
              exact t5
            have B5 := hideP (B4.out.trans (hb5.mono HB.out))
            have S5 : w5.cell? ⟨wr.heap.size, 0, none⟩ = some (.int .i64 tk) ∧ w5.cell? ⟨wr.heap.size, 1, none⟩ = some (.int .i64 tc) := kept_var HC4.out hk5 NE.out
            clear t5 hb5 hk5
            refine hK.out _ _ S5 (fun _ => ?_)
            clear hK
            refine wpAnyH_done (by kernel_rfl) ?_ _
            obtain ⟨s50, s51⟩ := S5
            by_cases h1 : tk = 1
            · have h1' : (tk == 1) = true := by rw [beq_iff_eq]; exact h1
              have HP' : Hid (Pl.passK vs (k + 1) = Pl.passK vs k + 1) := by show _ = _; rw [HP.out, if_pos h1]
              clear h1
              go_wp2_with fail
              go_roundw
              case rel => exact ⟨k + 1, by omega, by go_num, by rw [HP'.out]; go_num, T5, B5⟩
              case measure => simp [intOf]; omega
            · have h1' : (tk == 1) = false := by rw [beq_eq_false_iff_ne]; exact h1
              have HP' : Hid (Pl.passK vs (k + 1) = Pl.passK vs k) := by show _ = _; rw [HP.out, if_neg h1]; rfl
              clear h1
              go_wp2_with fail
              go_roundw
              case rel => exact ⟨k + 1, by omega, by go_num, by rw [HP'.out], T5, B5⟩
              case measure => simp [intOf]; omega
        · have hlt' : ¬ (k : Int) < (n : Int) := by omega
          have kn : k = n := by omega
          have HFin : Hid (∀ x y : ByteArray, x = wrd (Pl.passK vs k : Int) → y = wrd (n : Int) → (⟨(Pl.headL id.data.toList ++ Pl.lnsK vs k ++ Lib.join ([(⟨#[112, 97, 115, 115, 101, 100]⟩ : ByteArray), x, ⟨#[111, 102]⟩, y].map (fun b : ByteArray => b.data.toList)) [32] ++ [10]).toArray⟩ : ByteArray) = Pl.rep id vs) := by
            rintro x y rfl rfl
            rw [HREP.out, join4]
            unfold Pl.repL Pl.footL wrd
            rw [Hn.out, ← kn]
            simp
          have zp := Lib.itoa_length_le (Pl.passK vs k : Int) (by omega) (by omega)
          have zn := Lib.itoa_length_le (n : Int) (by omega) (by omega)
          have K1 : Hid (∀ W, Tab W → Calls Tryd.prog 63 #[.int .i64 (Pl.passK vs k : Int)] W fun e w' => e = .returned (.string (wrd (Pl.passK vs k : Int))) ∧ Below W.heap.size W w') := fun W hW => itoa_any _ W (by omega) (by omega) hW
          have K2 : Hid (∀ W, Tab W → Calls Tryd.prog 63 #[.int .i64 (n : Int)] W fun e w' => e = .returned (.string (wrd (n : Int))) ∧ Below W.heap.size W w') := fun W hW => itoa_any _ W (by omega) (by omega) hW
          have HLEN : Hid ((Pl.headL id.data.toList ++ Pl.lnsK vs k).length + (Lib.join ([(⟨#[112, 97, 115, 115, 101, 100]⟩ : ByteArray), wrd (Pl.passK vs k : Int), ⟨#[111, 102]⟩, wrd (n : Int)].map (·.data.toList)) [32]).length ≤ 1000000) := by
            show _ ≤ _
            rw [join4]
            have h1 := HHEAD.out
            have h2 := HLNS.out k hk
            unfold wrd
            simp only [List.length_append, List.length_cons, List.length_nil]
            omega
          obtain ⟨x, hx⟩ : ∃ x, wrd (Pl.passK vs k : Int) = x := ⟨_, rfl⟩
          obtain ⟨y, hy⟩ : ∃ y, wrd (n : Int) = y := ⟨_, rfl⟩
          have HF2 := hideP (HFin.out x y hx.symm hy.symm)
          rw [hx] at K1 HLEN
          rw [hy] at K2 HLEN
          have ht1 := hideP (HT.out.keep BB.out)
          clear hx hy HFin kn zp zn
          go_wp2_with fail
          refine (K1.out _ ht1.out).mono ?_
          rintro e w3 ⟨rfl, hb3⟩
          have B3 := hideP (BB.out.trans (hb3.mono BB.out.size))
          have T3 := hideP (hTx.out.keep hb3)
          have ht3 := hideP (HT.out.keep B3.out)
          clear hb3
          go_wp2_with fail
          refine (K2.out _ ht3.out).mono ?_
          rintro e w4 ⟨rfl, hb4⟩
          have AL4 : Hid (Below w4.heap.size w4 (w4.alloc (.cells #[.string ⟨#[112, 97, 115, 115, 101, 100]⟩, .string x, .string ⟨#[111, 102]⟩, .string y] 9))) := (Below.refl _ _).alloc (Nat.le_refl _) _
          have B4 := hideP ((B3.out.trans (hb4.mono B3.out.size)).trans (AL4.out.mono (Nat.le_trans B3.out.size hb4.size)))
          have T4 := hideP ((T3.out.keep hb4).keep AL4.out)
          have CC : Hid (∀ (j : Nat) z, [(⟨#[112, 97, 115, 115, 101, 100]⟩ : ByteArray), x, ⟨#[111, 102]⟩, y][j]? = some z → (w4.alloc (.cells #[.string ⟨#[112, 97, 115, 115, 101, 100]⟩, .string x, .string ⟨#[111, 102]⟩, .string y] 9)).cell? ⟨w4.heap.size, j, none⟩ = some (.string z)) := fun j z hj => by
            match j, hj with
            | 0, hj => simp at hj; subst hj; simp [go_sem]
            | 1, hj => simp at hj; subst hj; simp [go_sem]
            | 2, hj => simp at hj; subst hj; simp [go_sem]
            | 3, hj => simp at hj; subst hj; simp [go_sem]
            | j + 4, hj => simp at hj
          have LG : Hid (w4.heap.size < (w4.alloc (.cells #[.string ⟨#[112, 97, 115, 115, 101, 100]⟩, .string x, .string ⟨#[111, 102]⟩, .string y] 9)).heap.size) := by show _ < _; simp
          have BG : Hid (B ≤ (w4.alloc (.cells #[.string ⟨#[112, 97, 115, 115, 101, 100]⟩, .string x, .string ⟨#[111, 102]⟩, .string y] 9)).heap.size) := Nat.le_of_lt (Nat.lt_of_le_of_lt T4.out.lt.1 T4.out.lt.2)
          clear hb4 AL4
          go_wp2_with fail
          refine (add_any B B w4.heap.size 4 _ [⟨#[112, 97, 115, 115, 101, 100]⟩, x, ⟨#[111, 102]⟩, y] _ T4.out BG.out LG.out (by simp) (by simp) CC.out HLEN.out).mono ?_
          rintro e w5 ⟨rfl, t5, hb5, _⟩
          have B5 := hideP (B4.out.trans (hb5.mono HB.out))
          have KS := hideP (string_any B B _ w5 t5 (by simp))
          clear t5 hb5 T4 CC LG BG
          go_wp2_with fail
          refine KS.out.mono ?_
          rintro e w6 ⟨rfl, hb6⟩
          have B6 := hideP (B5.out.trans (hb6.mono HB.out))
          rw [HF2.out]
          clear hb6 KS
          go_wp2_with fail
          go_ret2
          exact ⟨rfl, B6.out⟩

end Go.Proofs.YtbmkbplgncoapaaDoor
