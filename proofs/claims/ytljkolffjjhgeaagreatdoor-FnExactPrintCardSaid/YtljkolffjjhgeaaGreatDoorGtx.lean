import Derived.Test.YtljkolffjjhgeaaGreatDoorExp
namespace Go.Proofs.YtljkolffjjhgeaaGreatDoor
open Go.RowKit
set_option linter.unusedVariables false
set_option maxRecDepth 100000
namespace Pl
theorem gtx_len {l : List Gv} {P : List UInt8} (h : gtx nt l = some P) : P.length ≤ 40 * gsum l l.length + 5 * l.length := by
  have := gx_len (gtx_get h) l.length (Nat.le_refl _)
  rw [gx_all h] at this
  exact this
theorem gtx_step {l : List Gv} {k : Nat} {g : Gv} (h : l[k]? = some g) {P a b : List UInt8} (hp : gtx nt (l.take k) = some P) (ha : xt nt g.test = some a) (hb : xt nt g.thn = some b) : gtx nt (l.take (k + 1)) = some (P ++ (a ++ [32, 58, 32] ++ b ++ [59, 32])) := by
  rw [List.take_add_one, h]
  show gtx nt (l.take k ++ [g]) = _
  rw [gtx_snoc, hp, ha, hb]
theorem gsum_take (l : List Gv) (k : Nat) (hk : k ≤ l.length) : gsum (l.take k) (l.take k).length ≤ gsum l l.length := by
  have h1 := gsum_le l k
  have h2 : (l.take k).length = k := by rw [List.length_take]; omega
  rw [h2]
  unfold gsum at *
  rw [List.take_take, Nat.min_self]
  exact h1
end Pl
set_option maxHeartbeats 8000000 in
/-- impl.guardsText -/
theorem guardsText_any (gs : List Pl.Gv) (ao : Option Addr) (cap mb mo cp : Nat) (hsm : ∀ g ∈ gs, Pl.Small g.test ∧ Pl.Small g.thn) (hz : gs.length + Pl.gsum gs gs.length ≤ 1048576) (w : World) (he : Ev w mb mo cp) (hR : RdG w.heap.size w ao gs) :
    Calls Tryz.prog 44 #[.slice ao gs.length cap] w fun e w' => e = .returned (.tuple #[.string (Pl.ba ((Pl.gtx Pl.nt gs).getD [])), .bool (Pl.gtx Pl.nt gs).isSome]) ∧ Below w.heap.size w w' := by
  have HG : Hid (∀ k, k < gs.length → ∃ g b off, gs[k]? = some g ∧ g ∈ gs ∧ ao = some ⟨b, off, none⟩ ∧ b < w.heap.size ∧ ∃ a1 a2 c1 c2, ∀ w', Below w.heap.size w w' → Gd w.heap.size w' b (off + k * 2) g a1 a2 c1 c2) := fun k hk => by
    rcases hR with rfl | ⟨b, off, hb, rfl, hc⟩
    · cases hk
    · obtain ⟨a1, a2, c1, c2, h⟩ := hc k gs[k] (List.getElem?_eq_getElem hk)
      exact ⟨gs[k], b, off, List.getElem?_eq_getElem hk, List.getElem_mem hk, rfl, hb, a1, a2, c1, c2, fun w' hw => h.keep hb hw⟩
  have HN : Hid (∀ g ∈ gs, (Pl.xt Pl.nt g.test = none ∨ Pl.xt Pl.nt g.thn = none) → Pl.gtx Pl.nt gs = none) := fun g hg h => Pl.gtx_none hg h
  have HS : Hid (∀ k g P a b, gs[k]? = some g → Pl.gtx Pl.nt (gs.take k) = some P → Pl.xt Pl.nt g.test = some a → Pl.xt Pl.nt g.thn = some b → Pl.gtx Pl.nt (gs.take (k + 1)) = some (P ++ (a ++ [32, 58, 32] ++ b ++ [59, 32]))) := fun k g P a b h1 h2 h3 h4 => Pl.gtx_step h1 h2 h3 h4
  have HL : Hid (∀ k P, k ≤ gs.length → Pl.gtx Pl.nt (gs.take k) = some P → P.length ≤ 100000000) := fun k P hk h => by
    have h1 := Pl.gtx_len h
    have h2 := Pl.gsum_take gs k hk
    have h3 : (gs.take k).length ≤ gs.length := by rw [List.length_take]; omega
    omega
  have HE : Hid (∀ P, Pl.gtx Pl.nt (gs.take gs.length) = some P → Pl.gtx Pl.nt gs = some P) := fun P h => by rwa [List.take_length] at h
  have HP : Hid (∀ k P, 0 < k → k ≤ gs.length → Pl.gtx Pl.nt (gs.take k) = some P → P ≠ []) := fun k P h0 hk h => by
    obtain ⟨j, rfl⟩ : ∃ j, k = j + 1 := ⟨k - 1, by omega⟩
    have hj : j < gs.length := hk
    have hmem : gs[j] ∈ gs.take (j + 1) := by
      rw [List.take_add_one, List.getElem?_eq_getElem hj]
      exact List.mem_append_right _ (List.mem_cons_self ..)
    obtain ⟨a, b, ha, hb⟩ := Pl.gtx_get h _ hmem
    cases e : Pl.gtx Pl.nt (gs.take j) with
    | none =>
      have : Pl.gtx Pl.nt (gs.take (j + 1)) = none := by
        rw [List.take_add_one, List.getElem?_eq_getElem hj]
        show Pl.gtx Pl.nt (gs.take j ++ [gs[j]]) = none
        rw [Pl.gtx_snoc, e]
      rw [this] at h; cases h
    | some P0 =>
      rw [Pl.gtx_step (List.getElem?_eq_getElem hj) e ha hb] at h
      rw [← Option.some.inj h]
      simp
  have HX : Hid (∀ g ∈ gs, ∀ (ao' : Option Addr) (cap' : Nat) w', Below w.heap.size w w' → (RdS w.heap.size w' ao' g.test → Calls Tryz.prog 43 #[.slice ao' g.test.length cap'] w' fun e w2 => e = .returned (.tuple #[.string (Pl.ba ((Pl.xt Pl.nt g.test).getD [])), .bool (Pl.xt Pl.nt g.test).isSome]) ∧ Below w'.heap.size w' w2) ∧ (RdS w.heap.size w' ao' g.thn → Calls Tryz.prog 43 #[.slice ao' g.thn.length cap'] w' fun e w2 => e = .returned (.tuple #[.string (Pl.ba ((Pl.xt Pl.nt g.thn).getD [])), .bool (Pl.xt Pl.nt g.thn).isSome]) ∧ Below w'.heap.size w' w2)) := fun g hg ao' cap' w' h => ⟨fun hr => exprText_any g.test ao' cap' mb mo cp (hsm g hg).1 w' (he.keep h) (hr.up h.size), fun hr => exprText_any g.thn ao' cap' mb mo cp (hsm g hg).2 w' (he.keep h) (hr.up h.size)⟩
  have HXL : Hid (∀ g ∈ gs, (Pl.ba ((Pl.xt Pl.nt g.test).getD [])).size ≤ 50000000 ∧ (Pl.ba ((Pl.xt Pl.nt g.thn).getD [])).size ≤ 50000000) := fun g hg => by
    have h1 := (hsm g hg).1.sz
    have h2 := (hsm g hg).2.sz
    constructor
    · cases e : Pl.xt Pl.nt g.test with
      | none => simp [Pl.ba_size]
      | some x => have := Pl.xt_len e; show x.length ≤ _; omega
    · cases e : Pl.xt Pl.nt g.thn with
      | none => simp [Pl.ba_size]
      | some x => have := Pl.xt_len e; show x.length ≤ _; omega
  have T0 := hideP (Tx.new w)
  have B0 : Hid (Below w.heap.size w (w.alloc (.cells #[.pointer none, .slice none 0 0] 56))) := (Below.refl _ _).alloc (Nat.le_refl _) _
  have C0 : Hid ((w.alloc (.cells #[.pointer none, .slice none 0 0] 56)).cell? ⟨w.heap.size, 1, none⟩ = some (.slice none 0 0)) := by show _ = _; simp [go_sem]
  have hln : gs.length ≤ 1048576 := by omega
  clear hR he hsm hz
  generalize hx : Pl.gtx Pl.nt gs = x at *
  clear hx
  generalize hn : gs.length = n at *
  clear hn
  go_enter Tryz.func44, Tryz.ntmps44
  go_wp2_with fail
  go_loopw [13] (fun iv wr => ∃ (k : Nat) (P : List UInt8), k ≤ n ∧ iv = .int .i64 k ∧ Hid (Pl.gtx Pl.nt (gs.take k) = some P ∧ Tx w.heap.size w.heap.size P wr ∧ (k = 0 → wr.cell? ⟨w.heap.size, 1, none⟩ = some (.slice none 0 0))) ∧ Hid (Below w.heap.size w wr)) (fun iv _ => n - (intOf iv).toNat)
  case atStart => exact ⟨0, [], Nat.zero_le _, rfl, ⟨rfl, T0.out, fun _ => C0.out⟩, B0⟩
  case round =>
    rename World => wo
    obtain ⟨k, P, hk, rfl, HH, BB⟩ := hrel
    have hbs := BB.out.size
    have hpl := HL.out k P hk HH.out.1
    by_cases hlt : k < n
    · obtain ⟨g, b, off, hg, hgm, rfl, hb, a1, a2, c1, c2, hgd⟩ := HG.out k hlt
      obtain ⟨g0, g1, r0, r1⟩ := hgd _ BB.out
      have N := hideP (HN.out g hgm)
      have S := hideP (fun a b => HS.out k g P a b hg HH.out.1)
      have BA : Hid (∀ o', Below wo.heap.size wo (wo.alloc o')) := fun o' => (Below.refl _ _).alloc (Nat.le_refl _) _
      have K1 : Hid (∀ w', Below wo.heap.size wo w' → Calls Tryz.prog 43 #[.slice a1 g.test.length c1] w' fun e w2 => e = .returned (.tuple #[.string (Pl.ba ((Pl.xt Pl.nt g.test).getD [])), .bool (Pl.xt Pl.nt g.test).isSome]) ∧ Below w'.heap.size w' w2) := fun w' h => (HX.out g hgm a1 c1 w' (BB.out.trans (h.mono hbs))).1 (r0.keep (h.mono hbs))
      have K2 : Hid (∀ w', Below wo.heap.size wo w' → Calls Tryz.prog 43 #[.slice a2 g.thn.length c2] w' fun e w2 => e = .returned (.tuple #[.string (Pl.ba ((Pl.xt Pl.nt g.thn).getD [])), .bool (Pl.xt Pl.nt g.thn).isSome]) ∧ Below w'.heap.size w' w2) := fun w' h => (HX.out g hgm a2 c2 w' (BB.out.trans (h.mono hbs))).2 (r1.keep (h.mono hbs))
      have CC : Hid (∀ (w1 w' : World) (j : Nat) (v : Value), Below w1.heap.size w1 w' → wo.heap.size < w1.heap.size → w1.cell? ⟨wo.heap.size, j, none⟩ = some v → w'.cell? ⟨wo.heap.size, j, none⟩ = some v) := fun w1 w' j v hb h1 h => (hb.cell (p := ⟨wo.heap.size, j, none⟩) h1).trans h
      obtain ⟨hl1, hl2⟩ := HXL.out g hgm
      have HTX : Hid (∀ w', Below wo.heap.size wo w' → Tx w.heap.size w.heap.size P w') := fun w' h => HH.out.2.1.keep h
      clear HG HN HS HL HE HP HX HXL hg hgm hgd r0 r1 HH
      generalize hxt : Pl.xt Pl.nt g.test = xt1 at *
      generalize hxh : Pl.xt Pl.nt g.thn = xt2 at *
      clear hxt hxh
      generalize g.test.length = l1 at *
      generalize g.thn.length = l2 at *
      cases xt1 with
      | none =>
        have HR := hideP (N.out (.inl rfl))
        simp only [Option.getD_none, Option.isSome_none] at K1
        generalize xt2.isSome = ok2 at *
        generalize Pl.ba (xt2.getD []) = s2 at *
        go_wp2_with fail
        refine (K1.out _ (BA.out _)).mono ?_
        rintro e w2 ⟨rfl, hb2⟩
        have d1 := CC.out _ _ 1 _ hb2 (by simp) (by simp [go_sem]; rfl)
        have H2 := hideP ((BA.out _).trans (hb2.mono (by simp)))
        clear hb2
        go_wp2_with (go_at_call 43; refine (K2.out _ H2.out).mono ?_; rintro e w3 ⟨rfl, hb3⟩)
        go_ret2
        exact ⟨ret_x (by rw [HR.out]; rfl) (by rw [HR.out]; rfl), BB.out.trans ((H2.out.trans (hb3.mono H2.out.size)).mono hbs)⟩
      | some sa =>
        simp only [Option.getD_some, Option.isSome_some] at K1 hl1
        cases xt2 with
        | none =>
          have HR := hideP (N.out (.inr rfl))
          simp only [Option.getD_none, Option.isSome_none] at K2
          generalize Pl.ba sa = s1 at *
          go_wp2_with fail
          refine (K1.out _ (BA.out _)).mono ?_
          rintro e w2 ⟨rfl, hb2⟩
          have d1 := CC.out _ _ 1 _ hb2 (by simp) (by simp [go_sem]; rfl)
          have H2 := hideP ((BA.out _).trans (hb2.mono (by simp)))
          clear hb2
          go_wp2_with (go_at_call 43; refine (K2.out _ H2.out).mono ?_; rintro e w3 ⟨rfl, hb3⟩)
          go_ret2
          exact ⟨ret_x (by rw [HR.out]; rfl) (by rw [HR.out]; rfl), BB.out.trans ((H2.out.trans (hb3.mono H2.out.size)).mono hbs)⟩
        | some sb =>
          simp only [Option.getD_some, Option.isSome_some] at K2 hl2
          have HR := hideP (S.out sa sb rfl rfl)
          have HD : Hid ((Pl.ba sa ++ ⟨#[32, 58, 32]⟩ ++ Pl.ba sb ++ ⟨#[59, 32]⟩ : ByteArray).data.toList = sa ++ [32, 58, 32] ++ sb ++ [59, 32]) := by show _ = _; simp [Pl.ba]
          have HDS : Hid ((Pl.ba sa ++ ⟨#[32, 58, 32]⟩ ++ Pl.ba sb ++ ⟨#[59, 32]⟩ : ByteArray).size ≤ 1000000000) := by
            show _ ≤ _
            rw [Pl.sz_eq, HD.out]
            rw [Pl.ba_size] at hl1 hl2
            simp
            omega
          have m1 : ¬ (9223372036854775807 < (Pl.ba sa).size + 3) := by omega
          have m2 : ¬ (9223372036854775807 < (Pl.ba sa).size + 3 + (Pl.ba sb).size) := by omega
          have m3 : ¬ (9223372036854775807 < (Pl.ba sa).size + 3 + (Pl.ba sb).size + 2) := by omega
          generalize Pl.ba sa = s1 at *
          generalize Pl.ba sb = s2 at *
          go_wp2_with fail
          refine (K1.out _ (BA.out _)).mono ?_
          rintro e w2 ⟨rfl, hb2⟩
          have d1 := CC.out _ _ 1 _ hb2 (by simp) (by simp [go_sem]; rfl)
          have H2 := hideP ((BA.out _).trans (hb2.mono (by simp)))
          clear hb2
          go_wp2_with fail
          refine (K2.out _ H2.out).mono ?_
          rintro e w3 ⟨rfl, hb3⟩
          have H3 := hideP (H2.out.trans (hb3.mono H2.out.size))
          have X3 := hideP (HTX.out _ H3.out)
          have B3 := hideP (BB.out.trans (H3.out.mono hbs))
          clear hb3 K1 K2
          go_wp2_with fail
          refine (tx_str w.heap.size w.heap.size P _ _ X3.out (by omega) HDS.out B3.out.size).mono ?_
          rintro e w4 ⟨rfl, h1, h2⟩
          rw [HD.out] at h1
          have X4 := hideP h1
          have B4 := hideP (B3.out.trans h2)
          clear h1 h2
          go_wp2_with fail
          go_roundw
          case rel => exact ⟨k + 1, _, by omega, by go_num, ⟨HR.out, X4.out, fun h => by omega⟩, B4⟩
          case measure => simp [intOf]; omega
    · obtain rfl : k = n := by omega
      obtain ⟨h1, h2, h3⟩ := HH.out
      have HR := hideP (HE.out P h1)
      by_cases k0 : k = 0
      · have hcell := h3 k0
        have hP : P = [] := by
          rw [k0] at h1
          exact (Option.some.inj h1).symm
        have K := hideP (tx_nil w.heap.size wo hcell)
        have HPN := hideP hP
        clear HG HN HS HL HE HP HX HXL HH h1 h2 h3 hcell hP k0
        go_wp2_with (go_at_call 27; refine K.out.mono ?_; rintro e w' ⟨rfl, hb⟩)
        go_ret2
        exact ⟨ret_x (by rw [HR.out, HPN.out]; rfl) (by rw [HR.out]; rfl), BB.out.trans (hb.mono hbs)⟩
      · have hP := HP.out k P (by omega) hk h1
        have K : Hid (Calls Tryz.prog 27 #[.pointer (some ⟨w.heap.size, 0, none⟩)] wo fun e w' => e = .returned (.string (Pl.ba P)) ∧ Below w.heap.size wo w') := string_any w.heap.size w.heap.size P wo h2 hP
        clear HG HN HS HL HE HP HX HXL HH h1 h2 h3 hP k0
        go_wp2_with (go_at_call 27; refine K.out.mono ?_; rintro e w' ⟨rfl, hb⟩)
        go_ret2
        exact ⟨ret_x (by rw [HR.out]; rfl) (by rw [HR.out]; rfl), BB.out.trans hb⟩
end Go.Proofs.YtljkolffjjhgeaaGreatDoor
