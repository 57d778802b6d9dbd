import Derived.Test.YtljkolffjjhgeaaDoorSpl
namespace Go.Proofs.YtljkolffjjhgeaaDoor
open Go.RowKit
set_option linter.unusedVariables false
set_option maxRecDepth 100000
set_option maxHeartbeats 8000000 in
/-- spec.l3Split -/
theorem l3Split_any (l : List Pl.Tok) (b off cap : Nat) (w : World) (hl : l.length ≤ 1048576) (hcap : l.length ≤ cap) (hcp : cap ≤ 9223372036854775807) (hk : ∀ t ∈ l, Pl.tOk t) (hR : RdK w.heap.size w (some ⟨b, off, none⟩) l) :
    Calls Tryd.prog 10 #[.slice (some ⟨b, off, none⟩) l.length cap] w fun e w' => ∃ v F, e = .returned v ∧ Below w.heap.size w w' ∧ Own 28 1 (Qk b off cap) w' v (Pl.spl l l.length 0 0 0) F ∧ Inb w.heap.size w' F := by
  have KI : Hid (∀ (j : Nat) (text : ByteArray) (W : World), Below w.heap.size w W → j ≤ 1048576 → Calls Tryd.prog 26 #[.slice (some ⟨b, off, none⟩) l.length cap, .int .i64 j, .string text] W fun e w' => e = .returned (.bool (Pl.isV l j text)) ∧ w' = W) := fun j text W hW h1 =>
    l3Is_any l _ cap j text W hl ⟨by omega, by omega⟩ ((hR.keep hW).up hW.size)
  have HT : Hid (∀ k, k < l.length → ∀ W, Below w.heap.size w W → W.cell? ⟨b, off + k * 4, none⟩ = some (.int .u8 (Pl.tq l k).k)) := fun k hk W hW => by
    rcases hR with rfl | ⟨b', off', hbw, e, hc⟩
    · simp at hk
    · cases e
      have := hc k (Pl.tq l k) (by unfold Pl.tq; rw [List.getElem?_eq_getElem hk]; rfl)
      exact bcell hW hbw this.1
  have HS : Hid (∀ j, j < l.length → Pl.br (Pl.tkT (Pl.tq l j)) = (if Pl.isV l j ⟨#[123]⟩ = true then 1 else 0) - (if Pl.isV l j ⟨#[125]⟩ = true then 1 else 0) ∧ ¬ (Pl.isV l j ⟨#[123]⟩ = true ∧ Pl.isV l j ⟨#[125]⟩ = true) ∧ (Pl.isSep (Pl.tkT (Pl.tq l j)) = true ↔ (Pl.tq l j).k = 59)) := fun j hj => ⟨(Pl.br_is (fun t ht => (hk t ht).1) hj).1, (Pl.br_is (fun t ht => (hk t ht).1) hj).2, (hk _ (Pl.tq_mem hj)).2⟩
  have HNS : Hid (∀ j, j < l.length → Pl.isV l j ⟨#[123]⟩ = true ∨ Pl.isV l j ⟨#[125]⟩ = true → ¬ (Pl.tq l j).k = 59) := fun j hj h e => by
    have a0 : Pl.isV l j ⟨#[123]⟩ = decide (Pl.sgTx (Pl.tkT (Pl.tq l j)) = [123]) := Pl.isV_in (fun t ht => (hk t ht).1) (c := [123]) (by decide) hj
    have a1 : Pl.isV l j ⟨#[125]⟩ = decide (Pl.sgTx (Pl.tkT (Pl.tq l j)) = [125]) := Pl.isV_in (fun t ht => (hk t ht).1) (c := [125]) (by decide) hj
    have h59 := (hk _ (Pl.tq_mem hj)).2.2 e
    rw [a0, a1] at h
    revert h h59
    cases Pl.tkT (Pl.tq l j) <;> simp [Pl.isSep, Pl.sgTx]
  have HU : Hid (∀ j o fr, j < l.length → Pl.spl l (l.length - j) j o fr = if o + Pl.br (Pl.tkT (Pl.tq l j)) ≤ 0 ∧ Pl.isSep (Pl.tkT (Pl.tq l j)) = true then (if fr < j then (fr, j) :: Pl.spl l (l.length - (j + 1)) (j + 1) (o + Pl.br (Pl.tkT (Pl.tq l j))) (j + 1) else Pl.spl l (l.length - (j + 1)) (j + 1) (o + Pl.br (Pl.tkT (Pl.tq l j))) (j + 1)) else Pl.spl l (l.length - (j + 1)) (j + 1) (o + Pl.br (Pl.tkT (Pl.tq l j))) fr) := fun j o fr hj => by
    rw [show l.length - j = (l.length - (j + 1)) + 1 by omega, Pl.spl]
  have HE : Hid (∀ o fr, Pl.spl l (l.length - l.length) l.length o fr = if fr < l.length then [(fr, l.length)] else []) := fun o fr => by rw [Nat.sub_self, Pl.spl]
  have HLEN : Hid ((Pl.spl l l.length 0 0 0).length ≤ l.length + 1) := Pl.spl_len l _ _ _ _
  have B0 : Hid (Below w.heap.size w (w.alloc (.cells #[] 28))) := (Below.refl _ _).alloc (Nat.le_refl _) _
  clear hR hk
  generalize hQ : Pl.spl l l.length 0 0 0 = Q at *
  generalize hL : l.length = n at *
  have H0 : Hid (Q = [] ++ Pl.spl l (n - 0) 0 0 0) := by show _ = _; rw [Nat.sub_zero]; exact hQ.symm
  clear hQ
  go_enter Tryd.func10, Tryd.ntmps10
  go_wp2_with fail
  go_loopw [3, 4, 5, 6] (fun v3 v4 v5 v6 wr => ∃ (i fr : Nat) (o : Int) (dn : List (Nat × Nat)) (F : List Nat), i ≤ n + 1 ∧ fr ≤ i ∧ v6 = .int .i64 i ∧ v4 = .int .i64 fr ∧ v5 = .int .i64 o ∧ -(i : Int) ≤ o ∧ o ≤ i ∧ Hid (Own 28 1 (Qk b off cap) wr v3 dn F ∧ Inb w.heap.size wr F ∧ Below w.heap.size w wr) ∧ Hid ((i ≤ n → Q = dn ++ Pl.spl l (n - i) i o fr) ∧ (i = n + 1 → Q = dn))) (fun _ _ _ v6 _ => n + 2 - (intOf v6).toNat)
  case atStart => exact ⟨0, 0, 0, [], [w.heap.size], by omega, Nat.le_refl _, rfl, rfl, rfl, by omega, by omega, ⟨Own.emp _ _ rfl, fun x hx => by simp at hx ⊢; omega, B0.out⟩, ⟨fun _ => H0.out, fun h => by omega⟩⟩
  case round =>
    rename World => wr
    obtain ⟨i, fr, o, dn, F, hi, hfr, rfl, rfl, rfl, ho1, ho2, HH, HQ⟩ := hrel
    obtain ⟨ao3, cap3, e3⟩ := HH.out.1.slice
    have hdl : dn.length ≤ n + 1 := by
      have h1 := HLEN.out
      by_cases h : i = n + 1
      · rw [HQ.out.2 h] at h1; exact h1
      · rw [HQ.out.1 (by omega)] at h1; simp at h1; omega
    generalize hdn : dn.length = dl at e3 hdl
    subst e3
    have hsz := HH.out.2.2.size
    by_cases hx : i = n + 1
    · subst hx
      have HQ' := hideP (HQ.out.2 rfl)
      have HF : Hid (Own 28 1 (Qk b off cap) wr (.slice ao3 dl cap3) Q F) := by show Own _ _ _ _ _ _ _; rw [HQ'.out]; exact HH.out.1
      clear HQ
      go_wp2_with fail
      refine bodyPost_ret (v := .slice ao3 dl cap3) (by simp [results, Tryd.results10, go_sem]) rfl ⟨_, F, rfl, HH.out.2.2, HF.out, HH.out.2.1⟩
    by_cases hin : i = n
    · subst hin
      have HQ' := HQ.out.1 (Nat.le_refl _)
      rw [HE.out] at HQ'
      by_cases hf : fr < i
      · rw [if_pos hf] at HQ'
        have hcapf : fr ≤ cap := by omega
        go_wp2_with (first | (at_builtin; refine wpList_append_o el32 (Qk.lives b off cap) _ rfl _ _ rfl _ _ _ _ _ rfl rfl dn [(fr, i)] F [] [.slice (some ⟨b, off + fr * 4, none⟩) (i - fr) (cap - fr)] w.heap.size ?ho ?hi ?hy ?hG ?hn ?hd rfl rfl ?hc ?h1 ?hbd ?hB ?_) | (go_at_call 26; with_reducible refine (K1.out _ HH.out.2.2).mono ?_; rintro e w2 ⟨rfl, rfl⟩) | (go_at_call 26; with_reducible refine (K2.out _ HH.out.2.2).mono ?_; rintro e w2 ⟨rfl, rfl⟩))
        case ho => exact HH.out.1.below (Qk.lives b off cap) HH.out.2.1 ((Below.refl _ _).alloc (Nat.le_refl _) _) (Nat.le_refl _)
        case hi => exact HH.out.2.1.up (Nat.le_refl _) (by simp)
        case hy => exact RowQ.one ⟨rfl, rfl⟩
        case hG => exact Inb.nil _ _
        case hn => exact List.nodup_nil
        case hd => simp
        case hc => exact cells_new (l := [.slice (some ⟨b, off + fr * 4, none⟩) (i - fr) (cap - fr)]) rfl
        case h1 => simp [Value.oneCell']
        case hbd => simp; omega
        case hB => simp; omega
        intro v9 w9 F9 ho9 hi9 hg9 _ _
        have B9 : Below w.heap.size w w9 := (HH.out.2.2.alloc hsz _).grown hg9 (by simp; omega) (fun q hq => (HH.out.2.1 q (HH.out.1.lt q hq).1).1)
        have H9 : Hid (Own 28 1 (Qk b off cap) w9 v9 (dn ++ [(fr, i)]) F9 ∧ Inb w.heap.size w9 F9 ∧ Below w.heap.size w w9) := ⟨ho9, hi9, B9⟩
        clear ho9 hi9 hg9 HH
        go_wp2_with fail
        go_roundw
        case rel => exact ⟨i + 1, i + 1, o, dn ++ [(fr, i)], F9, by omega, Nat.le_refl _, by go_num, by go_num, by go_num, by omega, by omega, H9, ⟨fun h => by omega, fun _ => HQ'⟩⟩
        case measure => simp [intOf] <;> omega
      · rw [if_neg hf, List.append_nil] at HQ'
        go_wp2_with (first | (go_at_call 26; with_reducible refine (K1.out _ HH.out.2.2).mono ?_; rintro e w2 ⟨rfl, rfl⟩) | (go_at_call 26; with_reducible refine (K2.out _ HH.out.2.2).mono ?_; rintro e w2 ⟨rfl, rfl⟩))
        go_roundw
        case rel => exact ⟨i + 1, i + 1, o, dn, F, by omega, by omega, by go_num, by go_num, by go_num, by omega, by omega, by first | exact HH | (rw [hdn]; exact HH), ⟨fun h => by omega, fun _ => HQ'⟩⟩
        case measure => simp [intOf] <;> omega
    have hlt : i < n := by omega
    have HQ' := HQ.out.1 (by omega)
    rw [HU.out i o fr hlt] at HQ'
    obtain ⟨hs1, hs2, hs3⟩ := HS.out i hlt
    have hns := HNS.out i hlt
    rw [hs1] at HQ'
    have d0 := HT.out i hlt wr HH.out.2.2
    have K1 := hideP (KI.out i ⟨#[123]⟩)
    have K2 := hideP (KI.out i ⟨#[125]⟩)
    have hIe : ((i : Int) == (n : Int)) = false := by simp; omega
    clear HU HE HLEN H0 HS HNS HT KI HQ
    generalize Pl.isV l i ⟨#[123]⟩ = c1 at *
    generalize Pl.isV l i ⟨#[125]⟩ = c2 at *
    generalize Pl.isSep (Pl.tkT (Pl.tq l i)) = sp at *
    generalize (Pl.tq l i).k = kk at *
    cases c1
    · cases c2
      · have ed : (o + ((if false = true then 1 else 0) - (if false = true then 1 else 0)) : Int) = o := by simp
        rw [ed] at HQ'
        by_cases hle : o ≤ 0
        · by_cases hk59 : kk = 59
          · have hsp : sp = true := hs3.2 hk59
            rw [if_pos ⟨hle, hsp⟩] at HQ'
            subst hk59
            by_cases hf : fr < i
            · rw [if_pos hf] at HQ'
              have hcapf : fr ≤ cap := by omega
              go_wp2_with (first | (at_builtin; refine wpList_append_o el32 (Qk.lives b off cap) _ rfl _ _ rfl _ _ _ _ _ rfl rfl dn [(fr, i)] F [] [.slice (some ⟨b, off + fr * 4, none⟩) (i - fr) (cap - fr)] w.heap.size ?ho ?hi ?hy ?hG ?hn ?hd rfl rfl ?hc ?h1 ?hbd ?hB ?_) | (go_at_call 26; with_reducible refine (K1.out _ HH.out.2.2 (by omega)).mono ?_; rintro e w2 ⟨rfl, rfl⟩) | (go_at_call 26; with_reducible refine (K2.out _ HH.out.2.2 (by omega)).mono ?_; rintro e w2 ⟨rfl, rfl⟩))
              case ho => exact HH.out.1.below (Qk.lives b off cap) HH.out.2.1 ((Below.refl _ _).alloc (Nat.le_refl _) _) (Nat.le_refl _)
              case hi => exact HH.out.2.1.up (Nat.le_refl _) (by simp)
              case hy => exact RowQ.one ⟨rfl, rfl⟩
              case hG => exact Inb.nil _ _
              case hn => exact List.nodup_nil
              case hd => simp
              case hc => exact cells_new (l := [.slice (some ⟨b, off + fr * 4, none⟩) (i - fr) (cap - fr)]) rfl
              case h1 => simp [Value.oneCell']
              case hbd => simp; omega
              case hB => simp; omega
              intro v9 w9 F9 ho9 hi9 hg9 _ _
              have B9 : Below w.heap.size w w9 := (HH.out.2.2.alloc hsz _).grown hg9 (by simp; omega) (fun q hq => (HH.out.2.1 q (HH.out.1.lt q hq).1).1)
              have H9 : Hid (Own 28 1 (Qk b off cap) w9 v9 (dn ++ [(fr, i)]) F9 ∧ Inb w.heap.size w9 F9 ∧ Below w.heap.size w w9) := ⟨ho9, hi9, B9⟩
              clear ho9 hi9 hg9 HH
              go_wp2_with fail
              go_roundw
              case rel => exact ⟨i + 1, i + 1, o, dn ++ [(fr, i)], F9, by omega, Nat.le_refl _, by go_num, by go_num, by go_num, by omega, by omega, H9, ⟨fun h => by rw [HQ', List.append_assoc]; rfl, fun h => by omega⟩⟩
              case measure => simp [intOf] <;> omega
            · rw [if_neg hf] at HQ'
              go_wp2_with (first | (go_at_call 26; with_reducible refine (K1.out _ HH.out.2.2 (by omega)).mono ?_; rintro e w2 ⟨rfl, rfl⟩) | (go_at_call 26; with_reducible refine (K2.out _ HH.out.2.2 (by omega)).mono ?_; rintro e w2 ⟨rfl, rfl⟩))
              go_roundw
              case rel => exact ⟨i + 1, i + 1, o, dn, F, by omega, by omega, by go_num, by go_num, by go_num, by omega, by omega, by first | exact HH | (rw [hdn]; exact HH), ⟨fun h => HQ', fun h => by omega⟩⟩
              case measure => simp [intOf] <;> omega
          · have hkb : (kk == 59) = false := by simpa using hk59
            rw [if_neg (fun h => hk59 (hs3.1 h.2))] at HQ'
            go_wp2_with (first | (go_at_call 26; with_reducible refine (K1.out _ HH.out.2.2 (by omega)).mono ?_; rintro e w2 ⟨rfl, rfl⟩) | (go_at_call 26; with_reducible refine (K2.out _ HH.out.2.2 (by omega)).mono ?_; rintro e w2 ⟨rfl, rfl⟩))
            go_roundw
            case rel => exact ⟨i + 1, fr, o, dn, F, by omega, by omega, by go_num, by go_num, by go_num, by omega, by omega, by first | exact HH | (rw [hdn]; exact HH), ⟨fun h => HQ', fun h => by omega⟩⟩
            case measure => simp [intOf] <;> omega
        · rw [if_neg (fun h => hle h.1)] at HQ'
          go_wp2_with (first | (go_at_call 26; with_reducible refine (K1.out _ HH.out.2.2 (by omega)).mono ?_; rintro e w2 ⟨rfl, rfl⟩) | (go_at_call 26; with_reducible refine (K2.out _ HH.out.2.2 (by omega)).mono ?_; rintro e w2 ⟨rfl, rfl⟩))
          go_roundw
          case rel => exact ⟨i + 1, fr, o, dn, F, by omega, by omega, by go_num, by go_num, by go_num, by omega, by omega, by first | exact HH | (rw [hdn]; exact HH), ⟨fun h => HQ', fun h => by omega⟩⟩
          case measure => simp [intOf] <;> omega
      · have hk59 : ¬ kk = 59 := hns (by simp)
        have hkb : (kk == 59) = false := by simpa using hk59
        have hsp : ¬ sp = true := fun h => hk59 (hs3.1 h)
        by_cases hle : o - 1 ≤ 0
        · rw [show (o + ((if false = true then 1 else 0) - (if true = true then 1 else 0)) : Int) = o - 1 by simp <;> omega, if_neg (fun h => hsp h.2)] at HQ'
          go_wp2_with (first | (go_at_call 26; with_reducible refine (K1.out _ HH.out.2.2 (by omega)).mono ?_; rintro e w2 ⟨rfl, rfl⟩) | (go_at_call 26; with_reducible refine (K2.out _ HH.out.2.2 (by omega)).mono ?_; rintro e w2 ⟨rfl, rfl⟩))
          go_roundw
          case rel => exact ⟨i + 1, fr, o - 1, dn, F, by omega, by omega, by go_num, by go_num, by go_num, by omega, by omega, by first | exact HH | (rw [hdn]; exact HH), ⟨fun h => HQ', fun h => by omega⟩⟩
          case measure => simp [intOf] <;> omega
        · rw [show (o + ((if false = true then 1 else 0) - (if true = true then 1 else 0)) : Int) = o - 1 by simp <;> omega, if_neg (fun h => hsp h.2)] at HQ'
          go_wp2_with (first | (go_at_call 26; with_reducible refine (K1.out _ HH.out.2.2 (by omega)).mono ?_; rintro e w2 ⟨rfl, rfl⟩) | (go_at_call 26; with_reducible refine (K2.out _ HH.out.2.2 (by omega)).mono ?_; rintro e w2 ⟨rfl, rfl⟩))
          go_roundw
          case rel => exact ⟨i + 1, fr, o - 1, dn, F, by omega, by omega, by go_num, by go_num, by go_num, by omega, by omega, by first | exact HH | (rw [hdn]; exact HH), ⟨fun h => HQ', fun h => by omega⟩⟩
          case measure => simp [intOf] <;> omega
    · cases c2
      · have hk59 : ¬ kk = 59 := hns (by simp)
        have hkb : (kk == 59) = false := by simpa using hk59
        have hsp : ¬ sp = true := fun h => hk59 (hs3.1 h)
        by_cases hle : o + 1 ≤ 0
        · rw [show (o + ((if true = true then 1 else 0) - (if false = true then 1 else 0)) : Int) = o + 1 by simp <;> omega, if_neg (fun h => hsp h.2)] at HQ'
          go_wp2_with (first | (go_at_call 26; with_reducible refine (K1.out _ HH.out.2.2 (by omega)).mono ?_; rintro e w2 ⟨rfl, rfl⟩) | (go_at_call 26; with_reducible refine (K2.out _ HH.out.2.2 (by omega)).mono ?_; rintro e w2 ⟨rfl, rfl⟩))
          go_roundw
          case rel => exact ⟨i + 1, fr, o + 1, dn, F, by omega, by omega, by go_num, by go_num, by go_num, by omega, by omega, by first | exact HH | (rw [hdn]; exact HH), ⟨fun h => HQ', fun h => by omega⟩⟩
          case measure => simp [intOf] <;> omega
        · rw [show (o + ((if true = true then 1 else 0) - (if false = true then 1 else 0)) : Int) = o + 1 by simp <;> omega, if_neg (fun h => hsp h.2)] at HQ'
          go_wp2_with (first | (go_at_call 26; with_reducible refine (K1.out _ HH.out.2.2 (by omega)).mono ?_; rintro e w2 ⟨rfl, rfl⟩) | (go_at_call 26; with_reducible refine (K2.out _ HH.out.2.2 (by omega)).mono ?_; rintro e w2 ⟨rfl, rfl⟩))
          go_roundw
          case rel => exact ⟨i + 1, fr, o + 1, dn, F, by omega, by omega, by go_num, by go_num, by go_num, by omega, by omega, by first | exact HH | (rw [hdn]; exact HH), ⟨fun h => HQ', fun h => by omega⟩⟩
          case measure => simp [intOf] <;> omega
      · exact absurd ⟨rfl, rfl⟩ hs2
end Go.Proofs.YtljkolffjjhgeaaDoor
