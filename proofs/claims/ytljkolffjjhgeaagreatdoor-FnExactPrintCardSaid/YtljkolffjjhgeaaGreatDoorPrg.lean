import Derived.Test.YtljkolffjjhgeaaGreatDoorStt
import Derived.Test.YtljkolffjjhgeaaGreatDoorItm
namespace Go.Proofs.YtljkolffjjhgeaaGreatDoor
open Go.RowKit
set_option linter.unusedVariables false
set_option maxRecDepth 100000
namespace Pl
/-- impl.programText -/
def prg (p : List Tv) : Option (List UInt8) := if psz p ≤ 16000 then ltx nt p else none
theorem stx_len {s : Tv} {x : List UInt8} (hc : Small s.code) (hz : s.gs.length + gsum s.gs s.gs.length ≤ 1048576) (h : stx nt s = some x) : x.length ≤ 200000000 := by
  obtain ⟨e, g, he, hg, hcase⟩ := stx_get h
  have h1 := xt_len he
  have h2 := gtx_len hg
  have h3 := hc.sz
  rcases hcase with ⟨_, rfl⟩ | ⟨_, rfl, h4⟩ | ⟨_, rfl, h4⟩
  · omega
  · simp only [List.length_append, List.length_cons, List.length_nil]; omega
  · simp only [List.length_append, List.length_cons, List.length_nil]; omega
theorem ltx_step {l : List Tv} {k : Nat} {s : Tv} (h : l[k]? = some s) {P x : List UInt8} (hp : ltx nt (l.take k) = some P) (hx : stx nt s = some x) : ltx nt (l.take (k + 1)) = some (P ++ (x ++ [10])) := by
  rw [List.take_add_one, h]
  show ltx nt (l.take k ++ [s]) = _
  rw [ltx_snoc, hp, hx]
theorem stx_w {s : Tv} {x : List UInt8} (h : stx nt s = some x) : x.length ≤ 45 * ssz s + 30 := by
  obtain ⟨e, g, he, hg, hcase⟩ := stx_get h
  have h1 := xt_len he
  have h2 := gtx_len hg
  have h3 := ssz_eq s
  rcases hcase with ⟨_, rfl⟩ | ⟨_, rfl, h4⟩ | ⟨_, rfl, h4⟩
  · omega
  · simp only [List.length_append, List.length_cons, List.length_nil]; omega
  · simp only [List.length_append, List.length_cons, List.length_nil]; omega
theorem ltx_len {l : List Tv} {P : List UInt8} (h : ltx nt l = some P) : P.length ≤ 45 * (l.map ssz).sum + 31 * l.length := by
  induction l generalizing P with
  | nil => simp [ltx] at h; simp [← h]
  | cons s l ih =>
    unfold ltx at h
    cases e1 : stx nt s with
    | none => rw [e1] at h; cases h
    | some a =>
      cases e2 : ltx nt l with
      | none => rw [e1, e2] at h; cases h
      | some t =>
        rw [e1, e2] at h
        have := ih e2
        have := stx_w e1
        rw [← Option.some.inj h]
        simp only [List.length_append, List.length_cons, List.length_nil, List.map_cons, List.sum_cons]
        omega
end Pl
set_option maxHeartbeats 8000000 in
/-- impl.programText -/
theorem programText_any (p : List Pl.Tv) (ao : Option Addr) (cap mb mo cp : Nat) (hsm : Pl.SmallP p) (w : World) (he : Ev w mb mo cp) (hR : RdP w.heap.size w ao p) :
    Calls Tryz.prog 13 #[.slice ao p.length cap] w fun e w' => e = .returned (.tuple #[.string (Pl.ba ((Pl.prg p).getD [])), .bool (Pl.prg p).isSome]) ∧ Below w.heap.size w w' := by
  have K0 := hideP (itemsFit_any p ao cap hsm w hR)
  have hln := hsm.len
  by_cases hz : Pl.psz p ≤ 16000
  · rw [decide_eq_true hz] at K0
    have EP : Hid (Pl.prg p = Pl.ltx Pl.nt p) := by show _ = _; unfold Pl.prg; rw [if_pos hz]
    rw [EP.out]
    have HG : Hid (∀ k, k < p.length → ∃ s b off, p[k]? = some s ∧ s ∈ p ∧ ao = some ⟨b, off, none⟩ ∧ b < w.heap.size ∧ ∃ a1 a2 c1 c2, ∀ w', Below w.heap.size w w' → Sm w.heap.size w' b (off + k * 4) s a1 a2 c1 c2) := fun k hk => by
      rcases hR with rfl | ⟨b, off, hb, rfl, hc⟩
      · cases hk
      · obtain ⟨a1, a2, c1, c2, h⟩ := hc k p[k] (List.getElem?_eq_getElem hk)
        exact ⟨p[k], b, off, List.getElem?_eq_getElem hk, List.getElem_mem hk, rfl, hb, a1, a2, c1, c2, fun w' hw => h.keep hb hw⟩
    have HN : Hid (∀ s ∈ p, Pl.stx Pl.nt s = none → Pl.ltx Pl.nt p = none) := fun s hs h => Pl.ltx_none hs h
    have HS : Hid (∀ k s P x, p[k]? = some s → Pl.ltx Pl.nt (p.take k) = some P → Pl.stx Pl.nt s = some x → Pl.ltx Pl.nt (p.take (k + 1)) = some (P ++ (x ++ [10]))) := fun k s P x h1 h2 h3 => Pl.ltx_step h1 h2 h3
    have HL : Hid (∀ k P, k ≤ p.length → Pl.ltx Pl.nt (p.take k) = some P → P.length ≤ 100000000) := fun k P hk h => by
      have h1 := Pl.ltx_len h
      have h2 := Pl.psum_le p k
      have h3 := Pl.psz_eq p
      have h4 : ((p.take k).map Pl.ssz).sum = Pl.psum p k := rfl
      have h5 : (p.take k).length ≤ p.length := by rw [List.length_take]; omega
      omega
    have HE : Hid (∀ P, Pl.ltx Pl.nt (p.take p.length) = some P → Pl.ltx Pl.nt p = some P) := fun P h => by rwa [List.take_length] at h
    have HP : Hid (∀ k P, 0 < k → k ≤ p.length → Pl.ltx Pl.nt (p.take k) = some P → P ≠ []) := fun k P h0 hk h => by
      obtain ⟨j, rfl⟩ : ∃ j, k = j + 1 := ⟨k - 1, by omega⟩
      have hj : j < p.length := hk
      rw [List.take_add_one, List.getElem?_eq_getElem hj] at h
      have h' : Pl.ltx Pl.nt (p.take j ++ [p[j]]) = some P := h
      rw [Pl.ltx_snoc] at h'
      cases e1 : Pl.ltx Pl.nt (p.take j) with
      | none => rw [e1] at h'; cases h'
      | some P0 =>
        cases e2 : Pl.stx Pl.nt p[j] with
        | none => rw [e1, e2] at h'; cases h'
        | some x =>
          rw [e1, e2] at h'
          rw [← Option.some.inj h']
          simp
    have HX : Hid (∀ s ∈ p, (∀ x, Pl.stx Pl.nt s = some x → x.length ≤ 200000000) ∧ ∀ (a1 a2 : Option Addr) (c1 c2 : Nat) w', Below w.heap.size w w' → RdS w.heap.size w' a1 s.code → RdG w.heap.size w' a2 s.gs → Calls Tryz.prog 24 #[.agg #[.int .i64 s.k, .string (Pl.ba s.nm), .slice a1 s.code.length c1, .slice a2 s.gs.length c2]] w' (StxPost s w')) := fun s hs => by
      have h1 := Pl.ssz_mem hs
      have h2 := Pl.ssz_eq s
      have h3 : s.gs.length + Pl.gsum s.gs s.gs.length ≤ 1048576 := by omega
      exact ⟨fun x hx => Pl.stx_len (hsm.st s hs).code h3 hx, fun a1 a2 c1 c2 w' h r1 r2 => stmtText_any s a1 a2 c1 c2 mb mo cp (hsm.st s hs) h3 w' (he.keep h) (r1.up h.size) (r2.up h.size)⟩
    have NEW : Hid (∀ w1, Below w.heap.size w w1 → Tx w1.heap.size w1.heap.size [] (w1.alloc (.cells #[.pointer none, .slice none 0 0] 56)) ∧ Below w1.heap.size w1 (w1.alloc (.cells #[.pointer none, .slice none 0 0] 56)) ∧ (w1.alloc (.cells #[.pointer none, .slice none 0 0] 56)).cell? ⟨w1.heap.size, 1, none⟩ = some (.slice none 0 0)) := fun w1 _ => ⟨Tx.new w1, (Below.refl _ _).alloc (Nat.le_refl _) _, by simp [go_sem]⟩
    clear hR he hsm hz EP
    generalize hx : Pl.ltx Pl.nt p = x at *
    clear hx
    generalize hn : p.length = n at *
    clear hn
    go_enter Tryz.func13, Tryz.ntmps13
    go_wp2_with fail
    refine K0.out.mono ?_
    rintro e w1 ⟨rfl, hb1⟩
    have H1 := hideP hb1
    obtain ⟨n1, n2, n3⟩ := NEW.out _ hb1
    have T0 := hideP n1
    have B0 := hideP n2
    have C0 := hideP n3
    have hz1 := hb1.size
    clear hb1 n1 n2 n3 NEW K0
    go_wp2_with fail
    go_loopw [14] (fun iv wr => ∃ (k : Nat) (P : List UInt8), k ≤ n ∧ iv = .int .i64 k ∧ Hid (Pl.ltx Pl.nt (p.take k) = some P ∧ Tx w1.heap.size w1.heap.size P wr ∧ (k = 0 → wr.cell? ⟨w1.heap.size, 1, none⟩ = some (.slice none 0 0))) ∧ Hid (Below w1.heap.size w1 wr)) (fun iv _ => n - (intOf iv).toNat)
    case atStart => exact ⟨0, [], Nat.zero_le _, rfl, ⟨rfl, T0.out, fun _ => C0.out⟩, B0⟩
    case round =>
      rename World => wo
      obtain ⟨k, P, hk, rfl, HH, BB⟩ := hrel
      have hbs := BB.out.size
      have BW : Hid (Below w.heap.size w wo) := H1.out.trans (BB.out.mono hz1)
      have hpl := HL.out k P hk HH.out.1
      by_cases hlt : k < n
      · obtain ⟨s, b, off, hs, hsm, rfl, hb, a1, a2, c1, c2, hgd⟩ := HG.out k hlt
        obtain ⟨g0, g1, g2, g3, r0, r1⟩ := hgd _ BW.out
        have N := hideP (HN.out s hsm)
        have S := hideP (fun x => HS.out k s P x hs HH.out.1)
        obtain ⟨xl, kx⟩ := HX.out s hsm
        have XL := hideP xl
        have BA : Hid (∀ o', Below wo.heap.size wo (wo.alloc o')) := fun o' => (Below.refl _ _).alloc (Nat.le_refl _) _
        have KS : Hid (∀ o', Calls Tryz.prog 24 #[.agg #[.int .i64 s.k, .string (Pl.ba s.nm), .slice a1 s.code.length c1, .slice a2 s.gs.length c2]] (wo.alloc o') (StxPost s (wo.alloc o'))) := fun o' => kx a1 a2 c1 c2 (wo.alloc o') (BW.out.trans ((BA.out o').mono BW.out.size)) (r0.keep ((BA.out o').mono BW.out.size)) (r1.keep ((BA.out o').mono BW.out.size))
        have HTX : Hid (∀ w', Below wo.heap.size wo w' → Tx w1.heap.size w1.heap.size P w') := fun w' h => HH.out.2.1.keep h
        clear HG HN HS HL HE HP HX hs hsm hgd r0 r1 HH xl kx
        generalize Pl.ba s.nm = nm at *
        generalize s.code.length = cl at *
        generalize s.gs.length = gl at *
        generalize s.k = kk at *
        go_wp2_with fail
        refine (KS.out _).mono ?_
        rintro e w2 ⟨str, rfl, hstr, hb2⟩
        have HST := hideP hstr
        have H2 := hideP ((BA.out _).trans (hb2.mono (by simp)))
        have B2 : Hid (Below w.heap.size w w2) := BW.out.trans (H2.out.mono BW.out.size)
        have B12 : Hid (Below w1.heap.size w1 w2) := BB.out.trans (H2.out.mono hbs)
        have X2 := hideP (HTX.out _ H2.out)
        clear hb2 hstr KS
        cases hst : Pl.stx Pl.nt s with
        | none =>
          have HR := hideP (N.out hst)
          clear hst
          go_wp2_with fail
          go_ret2
          exact ⟨ret_x (by rw [HR.out]; rfl) (by rw [HR.out]; rfl), B2.out⟩
        | some xx =>
          have HR := hideP (S.out xx hst)
          have hxl := XL.out xx hst
          have hse := HST.out xx hst
          clear hst
          subst hse
          have hsz : (Pl.ba xx).size ≤ 1000000000 := by rw [Pl.ba_size]; omega
          go_wp2_with fail
          refine (tx_str w1.heap.size w1.heap.size P _ _ X2.out (by omega) hsz B12.out.size).mono ?_
          rintro e w3 ⟨rfl, h1, h2⟩
          have X3 : Hid (Tx w1.heap.size w1.heap.size (P ++ xx) w3) := h1
          have B3 := hideP (B12.out.trans h2)
          clear h1 h2
          go_wp2_with fail
          refine (tx_byte w1.heap.size w1.heap.size _ 10 10 rfl _ X3.out (by rw [List.length_append]; omega) B3.out.size).mono ?_
          rintro e w4 ⟨rfl, h1, h2⟩
          have X4 : Hid (Tx w1.heap.size w1.heap.size (P ++ (xx ++ [10])) w4) := by rw [← List.append_assoc]; exact h1
          have B4 := hideP (B3.out.trans h2)
          clear h1 h2
          go_wp2_with fail
          go_roundw
          case rel => exact ⟨k + 1, _, by omega, by go_num, ⟨HR.out, X4.out, fun h => by omega⟩, B4⟩
          case measure => simp [intOf]; omega
      · obtain rfl : k = n := by omega
        obtain ⟨h1, h2, h3⟩ := HH.out
        have HR := hideP (HE.out P h1)
        by_cases k0 : k = 0
        · have hcell := h3 k0
          have hP : P = [] := by
            rw [k0] at h1
            exact (Option.some.inj h1).symm
          have K := hideP (tx_nil w1.heap.size wo hcell)
          have HPN := hideP hP
          clear HG HN HS HL HE HP HX HH h1 h2 h3 hcell hP k0
          go_wp2_with (go_at_call 27; refine K.out.mono ?_; rintro e w' ⟨rfl, hb⟩)
          go_ret2
          exact ⟨ret_x (by rw [HR.out, HPN.out]; rfl) (by rw [HR.out]; rfl), BW.out.trans (hb.mono BW.out.size)⟩
        · have hP := HP.out k P (by omega) hk h1
          have K : Hid (Calls Tryz.prog 27 #[.pointer (some ⟨w1.heap.size, 0, none⟩)] wo fun e w' => e = .returned (.string (Pl.ba P)) ∧ Below w1.heap.size wo w') := string_any w1.heap.size w1.heap.size P wo h2 hP
          clear HG HN HS HL HE HP HX HH h1 h2 h3 hP k0
          go_wp2_with (go_at_call 27; refine K.out.mono ?_; rintro e w' ⟨rfl, hb⟩)
          go_ret2
          exact ⟨ret_x (by rw [HR.out]; rfl) (by rw [HR.out]; rfl), BW.out.trans (hb.mono hz1)⟩
  · rw [decide_eq_false hz] at K0
    have HR := hideP (show Pl.prg p = none by unfold Pl.prg; rw [if_neg hz])
    clear hz hR he hsm
    generalize Pl.prg p = x at *
    generalize p.length = n at *
    go_enter Tryz.func13, Tryz.ntmps13
    go_wp2_with (go_at_call 23; refine K0.out.mono ?_; rintro e w1 ⟨rfl, hb1⟩)
    go_ret2
    exact ⟨ret_x (by rw [HR.out]; rfl) (by rw [HR.out]; rfl), hb1⟩
/-- impl.Print -/
theorem implPrint_any (p : List Pl.Tv) (ao : Option Addr) (cap mb mo cp : Nat) (hsm : Pl.SmallP p) (w : World) (he : Ev w mb mo cp) (hR : RdP w.heap.size w ao p) :
    Calls Tryz.prog 7 #[.slice ao p.length cap] w fun e w' => e = .returned (.tuple #[.string (Pl.ba (Pl.prt Pl.nt p).1), .bool (Pl.prt Pl.nt p).2]) ∧ Below w.heap.size w w' := by
  have K := hideP (programText_any p ao cap mb mo cp hsm w he hR)
  have HF : Hid (Pl.prt Pl.nt p = match Pl.prg p with | some t => if t.length ≤ 4000 then (t, true) else ([], false) | none => ([], false)) := by
    show _ = _
    unfold Pl.prt Pl.prg
    split <;> rfl
  clear he hR hsm
  generalize Pl.prt Pl.nt p = r at *
  generalize p.length = n at *
  cases h : Pl.prg p with
  | none =>
    rw [h] at K HF
    have HR := hideP (show r = ([], false) from HF.out)
    simp only [Option.getD_none, Option.isSome_none] at K
    clear h HF
    go_enter Tryz.func7, Tryz.ntmps7
    go_wp2_with (go_at_call 13; refine K.out.mono ?_; rintro e w1 ⟨rfl, hb1⟩)
    go_ret2
    exact ⟨ret_x (by rw [HR.out]; rfl) (by rw [HR.out]), hb1⟩
  | some t =>
    rw [h] at K HF
    simp only [Option.getD_some, Option.isSome_some] at K
    have hs : (Pl.ba t).size = t.length := rfl
    have HS : Hid ((Pl.ba t).size = t.length) := hs
    clear h
    by_cases h4 : t.length ≤ 4000
    · have HR := hideP (show r = (t, true) from HF.out.trans (if_pos h4))
      have hq : ¬ (((Pl.ba t).size : Int) > 4000) := by omega
      have HRR : Hid (Pl.ba r.1 = Pl.ba t ∧ r.2 = true) := by rw [HR.out]; exact ⟨rfl, rfl⟩
      clear HF hs HS h4 HR
      generalize Pl.ba t = tt at *
      go_enter Tryz.func7, Tryz.ntmps7
      go_wp2_with (go_at_call 13; refine K.out.mono ?_; rintro e w1 ⟨rfl, hb1⟩)
      go_ret2
      exact ⟨ret_x HRR.out.1.symm HRR.out.2.symm, hb1⟩
    · have HR := hideP (show r = ([], false) from HF.out.trans (if_neg h4))
      have hq : ((Pl.ba t).size : Int) > 4000 := by omega
      clear HF hs HS h4
      generalize Pl.ba t = tt at *
      go_enter Tryz.func7, Tryz.ntmps7
      go_wp2_with (go_at_call 13; refine K.out.mono ?_; rintro e w1 ⟨rfl, hb1⟩)
      go_ret2
      exact ⟨ret_x (by rw [HR.out]; rfl) (by rw [HR.out]), hb1⟩
end Go.Proofs.YtljkolffjjhgeaaGreatDoor
