import Derived.Test.YtmobjomebmipdaaMon5
import Derived.Test.YtmobjomebmipdaaVec
import Derived.Test.YtmobjomebmipdaaS2
import Derived.Deep.CutRange
namespace Go.Proofs.Ytmobjomebmipdaa
open Go.RowKit
set_option linter.unusedVariables false

namespace Pl
/-- the key of a place -/
def keyG (da : List Int) (x : Int) : Int := da.getD x.toNat 0
theorem grd_step {k : Int → Int} {us : List Int} {j p : Nat} (hu : us = grd k 0 j) (hp : p ≤ us.length) (h1 : ∀ t, t < p → k (us.getD t 0) ≤ k (j : Int)) (h2 : p < us.length → k (j : Int) < k (us.getD p 0)) : us.take p ++ (j : Int) :: us.drop p = grd k 0 (j + 1) := by
  have hs : Srt k us := by rw [hu]; exact srt_grd _ _ _
  show _ = ins k ((0 + j : Nat) : Int) (grd k 0 j)
  rw [← hu, Nat.zero_add]
  have e : ins k (j : Int) (us.take p ++ us.drop p) = us.take p ++ (j : Int) :: us.drop p := ins_split (fun x hx => by
      obtain ⟨t, ht, rfl⟩ := List.getElem_of_mem hx
      have hl := List.length_take_le p us
      have h := h1 t (by rw [List.length_take] at ht; omega)
      rw [List.getD, List.getElem?_eq_getElem (by rw [List.length_take] at ht; omega)] at h
      rw [List.getElem_take]
      exact h) (fun x hx => by
      obtain ⟨t, ht, rfl⟩ := List.getElem_of_mem hx
      rw [List.length_drop] at ht
      rw [List.getElem_drop]
      have h := h2 (by omega)
      rw [List.getD, List.getElem?_eq_getElem (by omega)] at h
      by_cases e : t = 0
      · subst e; exact h
      · have := List.pairwise_iff_getElem.1 hs p (p + t) (by omega) (by omega) (by omega)
        have h' : k (j : Int) < k us[p] := h
        omega)
  rw [List.take_append_drop] at e
  exact e.symm
end Pl

theorem rd_pre {B : Nat} {w : World} {b off m cap : Nat} {zs : List Int} (h : Rd B w (.slice (some ⟨b, off, none⟩) m cap) zs) (p : Nat) (hp : p ≤ m) (c' : Nat) : Rd B w (.slice (some ⟨b, off, none⟩) p c') (zs.take p) := by
  obtain ⟨ao, cap', e, h⟩ := h
  injection e with e1 e2 e3
  subst e2
  have hl : (zs.take p).length = p := by rw [List.length_take]; omega
  refine ⟨some ⟨b, off, none⟩, c', by rw [hl], ?_⟩
  rw [hl]
  by_cases h0 : p = 0
  · exact .inl h0
  · rcases h with h | ⟨b', off', hB, e', hc⟩
    · omega
    · rw [e'] at e1
      injection e1 with e1
      injection e1 with e1 e2 _
      subst e1 e2
      refine .inr ⟨b, off, hB, rfl, fun i hi => ?_⟩
      rw [hc i (by omega)]
      congr 2
      rw [List.getD, List.getD, List.getElem?_take_of_lt hi]
theorem rd_post {B : Nat} {w : World} {b off m cap : Nat} {zs : List Int} (h : Rd B w (.slice (some ⟨b, off, none⟩) m cap) zs) (p : Nat) (hp : p ≤ m) (c' : Nat) : Rd B w (.slice (some ⟨b, off + p, none⟩) (m - p) c') (zs.drop p) := by
  obtain ⟨ao, cap', e, h⟩ := h
  injection e with e1 e2 e3
  subst e2
  have hl : (zs.drop p).length = zs.length - p := List.length_drop
  refine ⟨some ⟨b, off + p, none⟩, c', by rw [hl], ?_⟩
  rw [hl]
  by_cases h0 : zs.length - p = 0
  · exact .inl h0
  · rcases h with h | ⟨b', off', hB, e', hc⟩
    · omega
    · rw [e'] at e1
      injection e1 with e1
      injection e1 with e1 e2 _
      subst e1 e2
      refine .inr ⟨b, off + p, hB, rfl, fun i hi => ?_⟩
      rw [show off + p + i = off + (p + i) by omega, hc (p + i) (by omega)]
      congr 2
      rw [List.getD, List.getD, List.getElem?_drop]

set_option maxRecDepth 100000 in
set_option maxHeartbeats 8000000 in
/-- spec.l2Grade -/
theorem l2Grade_any (b0 o0 c0 b1 o1 c1 : Nat) (sh da : List Int) (w : World) (h1 : Rd w.heap.size w (.slice (some ⟨b1, o1, none⟩) da.length c1) da) (hn : da.length ≤ 1000) :
    Calls Try.prog 59 #[.agg #[.slice (some ⟨b0, o0, none⟩) sh.length c0, .slice (some ⟨b1, o1, none⟩) da.length c1]] w fun e w' => ∃ u0 u1, e = .returned (.agg #[u0, u1]) ∧ Res w.heap.size w' u0 u1 [(da.length : Int)] (Pl.grd (Pl.keyG da) 0 da.length) ∧ Below w.heap.size w w' := by
  obtain ⟨wb, hwb⟩ : ∃ wb, wb = (w.alloc (.cells #[.slice (some ⟨b0, o0, none⟩) sh.length c0, .slice (some ⟨b1, o1, none⟩) da.length c1] 27)).alloc (.cells #[.slice none 0 0, .slice none 0 0] 27) := ⟨_, rfl⟩
  have WS : wb.heap.size = w.heap.size + 1 + 1 := by rw [hwb]; simp
  have PB : Hid (∀ W, Below wb.heap.size wb W → (W.cell? ⟨w.heap.size, 0, none⟩ = some (.slice (some ⟨b0, o0, none⟩) sh.length c0) ∧ W.cell? ⟨w.heap.size, 1, none⟩ = some (.slice (some ⟨b1, o1, none⟩) da.length c1)) ∧ (W.cell? ⟨w.heap.size + 1, 0, none⟩ = some (.slice none 0 0) ∧ W.cell? ⟨w.heap.size + 1, 1, none⟩ = some (.slice none 0 0) ∧ ∀ o, W.frozen? ⟨w.heap.size + 1, o, none⟩ = false) ∧ Below w.heap.size w W) := fun W hb => by
    subst hwb
    exact boxes2 (hb.mono (by simp))
  have HC : Hid (∀ i, i < da.length → b1 < w.heap.size ∧ w.cell? ⟨b1, o1 + i, none⟩ = some (.int .i64 (Pl.keyG da (i : Int)))) := fun i hi => by
    have := rd_cell h1 (i := i) hi
    exact this
  have O0 : Hid ((wb.alloc (.cells #[] 3)).ownsRow wb.heap.size 3 1 (.slice (some ⟨wb.heap.size, 0, none⟩) 0 0) 0 (([] : List Int).map (Value.int .i64))) := owns_empty wb wb.heap.size (Nat.le_refl _)
  have B0 : Hid (Below wb.heap.size wb (wb.alloc (.cells #[] 3))) := (Below.refl _ _).alloc (Nat.le_refl _) _
  generalize Pl.keyG da = k at *
  clear h1
  generalize da.length = n at *
  generalize sh.length = Ls at *
  have c00 := (PB.out _ B0.out).1.1
  have c01 := (PB.out _ B0.out).1.2
  go_enter Try.func59, Try.ntmps59
  go_wp2_with fail
  rw [← hwb]
  clear c00 c01 hwb
  go_loopw [3, 4, 5, 6] (fun ov i _ _ wr => ∃ (j : Nat) (us : List Int) (g cp : Nat), j ≤ n ∧ i = .int .i64 (j : Int) ∧ ov = .slice (some ⟨g, 0, none⟩) us.length cp ∧ Hid (us = Pl.grd k 0 j) ∧ Hid (wr.ownsRow wb.heap.size 3 1 (.slice (some ⟨g, 0, none⟩) us.length cp) us.length (us.map (Value.int .i64))) ∧ Hid (Below wb.heap.size wb wr)) (fun _ i _ _ _ => n - (intOf i).toNat)
  case atStart => exact ⟨0, [], wb.heap.size, 0, Nat.zero_le _, rfl, by rw [WS]; rfl, rfl, O0, B0⟩
  case round =>
    clear O0 B0
    obtain ⟨j, us, g, cp, hj, rfl, rfl, HU, HO, BB⟩ := hrel
    have X := hideP (PB.out _ BB.out)
    have HLN : Hid (us.length = j) := by show _ = _; rw [HU.out, Pl.len_grd]
    by_cases hlt : j < n
    · have hlt' : (j : Int) < (n : Int) := by omega
      obtain ⟨m, hm⟩ : ∃ m, us.length = m := ⟨_, rfl⟩
      have Hm := hideP hm
      have hmj : m ≤ 1000 := by have := HLN.out; omega
      rw [hm] at HO ⊢
      clear hm
      have c01 := X.out.1.2
      go_wp2_with fail
      clear c01
      go_loopw [5] (fun vp w2 => ∃ p : Nat, p ≤ m ∧ vp = .int .i64 (p : Int) ∧ Hid (∀ t, t < p → k (us.getD t 0) ≤ k (j : Int)) ∧ Hid (w2.ownsRow wb.heap.size 3 1 (.slice (some ⟨g, 0, none⟩) m cp) m (us.map (Value.int .i64))) ∧ Hid (Below wb.heap.size wb w2)) (fun vp _ => m - (intOf vp).toNat)
      case atStart => exact ⟨0, Nat.zero_le _, rfl, fun t ht => by omega, HO, BB⟩
      case round =>
        clear HO BB X
        obtain ⟨p, hp, rfl, HL, HO, BB⟩ := hrel
        have X := hideP (PB.out _ BB.out)
        have cj : wr.cell? ⟨b1, o1 + j, none⟩ = some (.int .i64 (k (j : Int))) := (X.out.2.2.cell (p := ⟨b1, o1 + j, none⟩) (HC.out j hlt).1).trans (HC.out j hlt).2
        have c01 := X.out.1.2
        go_upto_region 6 with fail
        go_cut [34] from 15 to 36 (fun c wx => c = .bool (decide (p < m ∧ k (us.getD p 0) ≤ k (j : Int))) ∧ Hid (wx.ownsRow wb.heap.size 3 1 (.slice (some ⟨g, 0, none⟩) m cp) m (us.map (Value.int .i64))) ∧ Hid (Below wb.heap.size wb wx))
        case first =>
          have OD : Hid (∀ q, (wr.drewN q).ownsRow wb.heap.size 3 1 (.slice (some ⟨g, 0, none⟩) m cp) m (us.map (Value.int .i64)) ∧ Below wb.heap.size wb (wr.drewN q)) := fun q => ⟨HO.out, below_drewN BB.out q⟩
          by_cases hpm : p < m
          · have hpm' : decide ((p : Int) < (m : Int)) = true := decide_eq_true (by omega)
            have hpm2 : (p : Int) < (m : Int) := by omega
            have cp0 : wr.cell? ⟨g, p, none⟩ = some (.int .i64 (us.getD p 0)) := by
              rw [HO.out.cellAt p (by omega), List.getElem?_map, List.getD, List.getElem?_eq_getElem (by rw [Hm.out]; exact hpm)]
              rfl
            have hmem : us.getD p 0 ∈ us := by
              rw [List.getD, List.getElem?_eq_getElem (by rw [Hm.out]; exact hpm)]
              exact List.getElem_mem _
            rw [HU.out] at hmem
            have hx2 := Pl.mem_grd hmem
            rw [← HU.out] at hx2
            obtain ⟨x, hx⟩ := Int.eq_ofNat_of_zero_le (show 0 ≤ us.getD p 0 by omega)
            rw [hx] at cp0 hx2
            have hxn : (x : Int) < (n : Int) := by omega
            have hjn : (j : Int) < (n : Int) := by omega
            have cx : wr.cell? ⟨b1, o1 + x, none⟩ = some (.int .i64 (k (x : Int))) := (X.out.2.2.cell (p := ⟨b1, o1 + x, none⟩) (HC.out x (by omega)).1).trans (HC.out x (by omega)).2
            have HXE := hideP hx
            clear hmem hx2 hx
            by_cases hle : k (x : Int) ≤ k (j : Int)
            · have HR : Hid (decide (p < m ∧ k (us.getD p 0) ≤ k (j : Int)) = true) := decide_eq_true ⟨hpm, by rw [HXE.out]; exact hle⟩
              have hle' : decide (k (x : Int) ≤ k (j : Int)) = true := decide_eq_true hle
              go_quiet (fail)
              go_wp2_with fail
              go_meet
              case rel => exact ⟨congrArg Value.bool HR.out.symm, (OD.out _).1, (OD.out _).2⟩
            · have HR : Hid (decide (p < m ∧ k (us.getD p 0) ≤ k (j : Int)) = false) := decide_eq_false fun h => hle (by rw [← HXE.out]; exact h.2)
              have hle' : decide (k (x : Int) ≤ k (j : Int)) = false := decide_eq_false hle
              go_quiet (fail)
              go_wp2_with fail
              go_meet
              case rel => exact ⟨congrArg Value.bool HR.out.symm, (OD.out _).1, (OD.out _).2⟩
          · have hpm' : decide ((p : Int) < (m : Int)) = false := decide_eq_false (by omega)
            have HR : Hid (decide (p < m ∧ k (us.getD p 0) ≤ k (j : Int)) = false) := decide_eq_false fun h => hpm h.1
            go_quiet (fail)
            go_wp2_with fail
            go_meet
            case rel => exact ⟨congrArg Value.bool HR.out.symm, (OD.out _).1, (OD.out _).2⟩
        case rest =>
          clear HO BB X cj c01
          obtain ⟨rfl, HO, BB⟩ := hcut
          by_cases hc : p < m ∧ k (us.getD p 0) ≤ k (j : Int)
          · have hcd : decide (p < m ∧ k (us.getD p 0) ≤ k (j : Int)) = true := decide_eq_true hc
            have HL' : Hid (∀ t, t < p + 1 → k (us.getD t 0) ≤ k (j : Int)) := fun t ht => by
              by_cases e : t = p
              · rw [e]; exact hc.2
              · exact HL.out t (by omega)
            rw [hcd]
            clear hcd
            go_wp2_with fail
            go_roundw
            case rel => exact ⟨p + 1, by omega, by go_num, HL', HO, BB⟩
            case measure => simp [intOf]; omega
          · have hcd : decide (p < m ∧ k (us.getD p 0) ≤ k (j : Int)) = false := decide_eq_false hc
            have HG : Hid (us.take p ++ (j : Int) :: us.drop p = Pl.grd k 0 (j + 1)) := Pl.grd_step HU.out (by rw [Hm.out]; exact hp) HL.out (fun h => by
              rw [Hm.out] at h
              by_cases e : k (us.getD p 0) ≤ k (j : Int)
              · exact absurd ⟨h, e⟩ hc
              · omega)
            rw [hcd]
            clear hcd hc
            obtain ⟨hcap1, hcap2⟩ : m ≤ cp ∧ cp ≤ 9223372036854775807 := by
              rcases HO.out.2 with ⟨e, _⟩ | ⟨g', cp', cur, e, _, _, q1, q2, _⟩
              · injection e with e1 _ _; cases e1
              · injection e with _ _ e3
                subst e3
                unfold maxLen at q2
                exact ⟨q1, by omega⟩
            have RD : Hid (Rd wc.heap.size wc (.slice (some ⟨g, 0, none⟩) m cp) us) := by
              have h1 : wc.ownsRow wb.heap.size 3 1 (.slice (some ⟨g, 0, none⟩) us.length cp) us.length (us.map (Value.int .i64)) := by rw [Hm.out]; exact HO.out
              have := (own_of_any h1).rd
              rw [Hm.out] at this
              exact this
            have KC := hideP (l2Copy_at (.slice (some ⟨g, 0, none⟩) p cp) (us.take p) wc (by rw [List.length_take, Hm.out]; omega) (rd_pre RD.out p hp cp))
            have hlp : (us.take p).length = p := by rw [List.length_take, Hm.out]; omega
            rw [hlp] at KC
            obtain ⟨P, hP⟩ : ∃ P, us.take p = P := ⟨_, rfl⟩
            obtain ⟨Q, hQ⟩ : ∃ Q, us.drop p = Q := ⟨_, rfl⟩
            have hld : (us.drop p).length = m - p := by rw [List.length_drop, Hm.out]
            have RPQ : Hid (∀ w5, Below wc.heap.size wc w5 → Rd w5.heap.size w5 (.slice (some ⟨g, p, none⟩) (m - p) (cp - p)) Q) := fun w5 hb => by
              have := rd_post ((RD.out.keep hb).up hb.size) p hp (cp - p)
              rw [Nat.zero_add, hQ] at this
              exact this
            rw [hP, hQ] at HG
            rw [hP] at KC hlp
            rw [hQ] at hld
            have HLP := hideP hlp
            have HLQ := hideP hld
            clear hP hQ hlp hld RD
            go_wp2_with fail
            refine KC.out.mono ?_
            rintro e w3 ⟨g3, cp3, rfl, q0, q1, ho3, hb3⟩
            have B3 := hideP (BB.out.trans (hb3.mono BB.out.size))
            have AL : Hid (Below w3.heap.size w3 (w3.alloc (.cells #[.int .i64 (j : Int)] 3))) := (Below.refl _ _).alloc (Nat.le_refl _) _
            have B4 := hideP (B3.out.trans (AL.out.mono B3.out.size))
            have O4 : Hid ((w3.alloc (.cells #[.int .i64 (j : Int)] 3)).ownsRow wc.heap.size 3 1 (.slice (some ⟨g3, 0, none⟩) p cp3) p (P.map (Value.int .i64))) := owns_keep ho3 AL.out
            have R4 : Hid (Rd (w3.heap.size + 1) (w3.alloc (.cells #[.int .i64 (j : Int)] 3)) (.slice (some ⟨w3.heap.size, 0, none⟩) 1 1) [(j : Int)]) := by
              have := (own_lit w3 _ (j : Int) (Below.refl _ _)).rd
              show Rd _ _ _ _
              simpa using this
            have hs3 := hb3.size
            have BC : Hid (Below wc.heap.size wc (w3.alloc (.cells #[.int .i64 (j : Int)] 3))) := hb3.trans (AL.out.mono hb3.size)
            clear ho3 hb3 KC AL
            go_wp2_with (at_builtin; refine wpList_append_rd_at (base := wc.heap.size) _ rfl (.tmp 40) (.tmp 42) rfl (.slice (some ⟨g3, 0, none⟩) p cp3) (.slice (some ⟨w3.heap.size, 0, none⟩) 1 1) rfl rfl p P [(j : Int)] O4.out R4.out (by simp; omega) (by simp; omega) ?_)
            intro v5 w5 ho5 hg5 _
            have BG : Hid (Below wc.heap.size wc w5) := BC.out.grown hg5 (by simp; omega) (fun k hk => (O4.out.lt k hk).1)
            have B5 := hideP (BB.out.trans (BG.out.mono BB.out.size))
            have O5 : Hid (w5.ownsRow wc.heap.size 3 1 v5 (p + 1) ((P ++ [(j : Int)]).map (Value.int .i64))) := by
              show World.ownsRow _ _ _ _ _ _ _
              simpa using ho5
            have R5 := hideP (RPQ.out _ BG.out)
            have hs5 := BG.out.size
            obtain ⟨x5, y5, e5⟩ := owns_form ho5
            subst e5
            clear ho5 hg5 O4 R4 BC B3 B4
            have HLEN : Hid ((P ++ [(j : Int)] ++ Q).length = j + 1) := by
              show _ = _
              rw [List.append_assoc, List.singleton_append, HG.out, Pl.len_grd]
            have FIN : Hid (∀ v6 w6, w6.ownsRow wc.heap.size 3 1 v6 (p + 1 + Q.length) ((P ++ [(j : Int)] ++ Q).map (Value.int .i64)) → w5.grownBy w6 (Value.slice x5 (p + 1) y5).ownBlock → ∃ (j' : Nat) (us' : List Int) (g' cp' : Nat), j' ≤ n ∧ Value.int .i64 ((j : Int) + 1) = .int .i64 (j' : Int) ∧ v6 = .slice (some ⟨g', 0, none⟩) us'.length cp' ∧ Hid (us' = Pl.grd k 0 j') ∧ Hid (w6.ownsRow wb.heap.size 3 1 (.slice (some ⟨g', 0, none⟩) us'.length cp') us'.length (us'.map (Value.int .i64))) ∧ Hid (Below wb.heap.size wb w6)) := fun v6 w6 ho6 hg6 => by
              have hb6 : Below wb.heap.size wb w6 := B5.out.grown hg6 B5.out.size (fun k hk => by have := (O5.out.lt k hk).1; have := BB.out.size; omega)
              have hl6 : p + 1 + Q.length = (P ++ [(j : Int)] ++ Q).length := by
                rw [List.length_append, List.length_append, HLP.out]
                rfl
              rw [hl6] at ho6
              obtain ⟨g', cp', e6⟩ : ∃ g' cp', v6 = .slice (some ⟨g', 0, none⟩) (P ++ [(j : Int)] ++ Q).length cp' := by
                rcases ho6.2 with ⟨_, e⟩ | ⟨g', cp', cur, e, _⟩
                · rw [HLEN.out] at e; omega
                · exact ⟨g', cp', e⟩
              subst e6
              refine ⟨j + 1, _, g', cp', by omega, by go_num, rfl, ?_, owns_base ho6 BB.out.size, hb6⟩
              show _ = _
              rw [List.append_assoc, List.singleton_append]
              exact HG.out
            have hpc : p ≤ cp := by omega
            by_cases hce : p = cp
            · have RZ : Hid (∀ a, Rd w5.heap.size w5 (.slice a 0 0) Q) := fun a => rd_zero _ _ _ _ _ (by rw [HLQ.out]; omega)
              obtain rfl : p = m := by omega
              subst hce
              clear R5 RPQ
              go_wp2_with (at_builtin; refine wpList_append_rd_at (base := wc.heap.size) _ rfl (.tmp 44) (.tmp 47) rfl (.slice x5 (p + 1) y5) _ rfl rfl (p + 1) (P ++ [(j : Int)]) Q O5.out (RZ.out _) (by rw [HLQ.out]; omega) hs5 ?_)
              intro v6 w6 ho6 hg6 _
              have F6 := hideP (FIN.out v6 w6 (by simpa using ho6) hg6)
              clear ho6 hg6
              go_wp2_with fail
              go_roundw
              case rel => exact F6.out
              case measure => simp [intOf]; omega
            · have hmp : (m : Int) - (p : Int) = ((m - p : Nat) : Int) := by omega
              go_wp2_with (at_builtin; refine wpList_append_rd_at (base := wc.heap.size) _ rfl (.tmp 44) (.tmp 47) rfl (.slice x5 (p + 1) y5) (.slice (some ⟨g, p, none⟩) (m - p) (cp - p)) rfl rfl (p + 1) (P ++ [(j : Int)]) Q O5.out R5.out (by rw [HLQ.out]; omega) hs5 ?_)
              intro v6 w6 ho6 hg6 _
              have F6 := hideP (FIN.out v6 w6 (by simpa using ho6) hg6)
              clear ho6 hg6
              go_wp2_with fail
              go_roundw
              case rel => exact F6.out
              case measure => simp [intOf]; omega
    · have hlt' : ¬ (j : Int) < (n : Int) := by omega
      have hjn : j = n := by omega
      have RV : Hid (Rd wr.heap.size wr (.slice (some ⟨g, 0, none⟩) us.length cp) us) := (own_of_any HO.out).rd
      have KV := hideP (l2Vector_any _ us wr (by have := HLN.out; omega) RV.out)
      have c01 := X.out.1.2
      have HUN : Hid (us = Pl.grd k 0 n) := by show _ = _; rw [← hjn]; exact HU.out
      have HLE : Hid ((us.length : Int) = (n : Int)) := by show _ = _; rw [HLN.out, hjn]
      clear hjn RV
      go_wp2_with fail
      refine KV.out.mono ?_
      rintro e w2 ⟨g0, g1, cp1, rfl, q0, q1, res2, hb2⟩
      have B2 := hideP (BB.out.trans (hb2.mono BB.out.size))
      have X2 := hideP (PB.out _ B2.out)
      have R2 := hideP res2
      have hs2 := hb2.size
      have hsb := BB.out.size
      clear hb2 res2 c01 KV
      have r0 := X2.out.2.1.1
      have r1 := X2.out.2.1.2.1
      have f2 := X2.out.2.1.2.2
      go_wp2_with fail
      refine bodyPost_ret (v := .agg #[.slice (some ⟨g0, 0, none⟩) 1 1, .slice (some ⟨g1, 0, none⟩) us.length cp1]) (by simp [results, Try.results59, go_sem, r0, r1]) rfl ⟨_, _, rfl, ?_, (X2.out.2.2.setCell (by simp) _).setCell (by simp) _⟩
      have := R2.out
      rw [HLE.out] at this
      rw [← HUN.out]
      exact ⟨Own.base (Own.store (Own.store this.1 (by omega) _) (by omega) _) (by omega), Own.base (Own.store (Own.store this.2.1 (by omega) _) (by omega) _) (by omega), this.2.2⟩

end Go.Proofs.Ytmobjomebmipdaa
