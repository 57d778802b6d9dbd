import Derived.Test.YtfangdhbadmolaaGreatDoorLo
import Derived.Test.YtfangdhbadmolaaGreatDoorIter
namespace Go.Proofs.YtfangdhbadmolaaGreatDoor
open Go.RowKit Go.Maps Go.MuLone Go.Sort Go.Shelf
set_option linter.unusedVariables false

namespace Pl
theorem strKeys_of (fs : List Fl) : strKeys (mapOf fs) = fs.map (fun f => f.1.data.toList) := by
  simp only [strKeys, mapOf, List.map_map]
  rfl
theorem names_sorted {fs : List Fl} (h : Srt fs) : (fs.map (fun f => f.1.data.toList)).mergeSort leB = fs.map (fun f => f.1.data.toList) := by
  refine List.mergeSort_of_pairwise ?_
  rw [List.pairwise_map]
  refine List.Pairwise.imp ?_ h
  intro f g hfg
  have e : Op.bytesLess f.1.data.toList g.1.data.toList = true := by
    have := hfg
    unfold lt at this
    rw [ByteArray.toList_eq, ByteArray.toList_eq] at this
    exact this
  rw [bytesLess_eq] at e
  simp only [decide_eq_true_eq] at e ⊢
  exact List.le_of_lt e
theorem data_self {fs : List Fl} (h : Srt fs) (k : Nat) (hk : k < fs.length) : dataF fs (at' fs k).1 = (at' fs k).2 := by
  refine (at_first fs (at' fs k).1 k hk (fun i hi e => ?_) rfl).2
  have h1 := srt_take h k hk (at' fs i) (by
    have e1 : at' fs i = (fs.take k)[i]'(by simp; omega) := by simp [at', List.getD, show i < fs.length by omega]
    rw [e1]; exact List.getElem_mem _)
  exact lt_ne h1 e
end Pl

/-- maps.Keys -/
theorem keys_calls (b : Nat) (W : World) : Calls Tryz.prog 40 #[.map (some b)] W fun e w' => e = .returned (.func (.func 55) #[] #[.pointer (some ⟨W.heap.size, 0, none⟩)]) ∧ w' = W.alloc (.cells #[.map (some b)] 66) :=
  (callsIn_wide (n := 5)).1 (Tryz.maps_Keys_40 (some b) W)

/-- slices.Sorted of it -/
theorem sorted_calls (b : Nat) (fs : List Pl.Fl) (w : World) (h : Lm w b fs) (hs : Pl.Srt fs) (hl : fs.length ≤ 400) :
    Calls Tryz.prog 39 #[.func (.func 55) #[] #[.pointer (some ⟨w.heap.size, 0, none⟩)]] (w.alloc (.cells #[.map (some b)] 66)) fun e w' => ∃ v, e = .returned v ∧
      w'.ownsRow (w.heap.size + 1) 9 1 v fs.length (fs.map fun f => .string f.1) ∧ Below w.heap.size w w' := by
  have e := Pl.size_eq' fs
  refine ((callsIn_wide (n := 5)).1 (Tryz.slices_Sorted_keys_39_40 b fs.length (Pl.mapOf fs) contElem w h (by rw [e]; unfold maxLen; omega) (by rw [e]; omega))).mono ?_
  rintro e w' ⟨v, ss, rfl, hp, ho, _, hb⟩
  refine ⟨v, rfl, ?_, ((Below.refl _ _).alloc (Nat.le_refl _) _).trans (hb.mono (by simp))⟩
  rw [Pl.strKeys_of] at hp
  have e1 : ss.mergeSort leB = fs.map (fun f => f.1.data.toList) := (mergeSort_of_perm hp).trans (Pl.names_sorted hs)
  have e2 : ss.length = fs.length := by rw [hp.length_eq]; simp
  have e3 : (ss.mergeSort leB).map encStr = fs.map fun f => Value.string f.1 := by
    rw [e1, List.map_map]
    refine List.map_congr_left fun f _ => ?_
    show Value.string ⟨f.1.data.toList.toArray⟩ = _
    cases f.1; simp
  have ho' : w'.ownsRow (w.heap.size + 1) 9 1 v ss.length ((ss.mergeSort leB).map encStr) := by simpa using ho
  rw [e2, e3] at ho'
  exact ho'

theorem fld68 (s : ByteArray) (W : World) : (Instr.field 68 (.agg #[.string s]) 0).run Tryz.prog W = .ok (.string s) W := by kernel_rfl

theorem own_apart {w : World} {B B' n n' s s' : Nat} {u v : Value} {e e' : TypeId} {xs ys : List Value} (h : w.ownsRow B e s u n xs) (h' : w.ownsRow B' e' s' v n' ys) (he : ¬ e' = e) : v.ownBlock = none ∨ v.ownBlock ≠ u.ownBlock := by
  rcases h'.2 with ⟨rfl, _⟩ | ⟨g, cap, cur, rfl, _, hg, _⟩
  · exact .inl rfl
  · refine .inr fun e1 => ?_
    have := own_ne h hg he
    exact this e1.symm

theorem Lv.far {L b : Nat} {q : Int} {fs : List Pl.Fl} {W : World} (h : Lv L b q fs W) {N o : Nat} {v : Value} (hL : ¬ L = N) (hb : ¬ b = N) : Lv L b q fs (W.setCell ⟨N, o, none⟩ v) := by
  refine ⟨by simpa using h.lt, ?_, by simp [go_sem, h.mf], ?_, ?_, h.ne⟩
  · rw [World.cell?_setCell_other _ _ _ _ (by intro e; injection e with e1 _ _; exact hL e1.symm)]; exact h.m
  · rw [World.cell?_setCell_other _ _ _ _ (by intro e; injection e with e1 _ _; exact hL e1.symm)]; exact h.p
  · exact h.own.kept (grown_setCell W N o v) (fun e => hb (by injection e))

set_option maxRecDepth 100000 in
set_option maxHeartbeats 8000000 in
/-- (*liveDisk).disk -/
theorem disk_any (L b : Nat) (fs : List Pl.Fl) (w : World) (hv : Pl.Vd fs) (hz : ∀ f ∈ fs, f.1.size ≤ 1048576) (h : Lv L b 0 fs w) :
    Calls Tryz.prog 22 #[.pointer (some ⟨L, 0, none⟩)] w fun e w' => ∃ v, e = .returned (.agg #[v]) ∧ OwF w.heap.size w' v fs ∧ Kp L b w w' := by
  obtain ⟨i0, hi, hz0, hz1, hz2⟩ := info_parts Tryz.info59
  have hL := h.lt
  have hb := h.own.lt
  have hl := hv.len
  have HV := hideP hv
  have HZ := hideP hz
  have W1 := hideP (show Lv L b 0 fs (w.alloc (.cells #[.slice none 0 0] 31)) from h.keep ((Below.refl _ _).alloc (Nat.le_refl _) _))
  have m1 := W1.out.m
  have f1 := W1.out.mf
  have W2 := hideP (W1.out.lock (q' := 1))
  have KP : Hid (Kp L b w ((w.alloc (.cells #[.slice none 0 0] 31)).setCell ⟨L, 0, none⟩ (.int .i32 1))) := ((Kp.refl L b w).keep ((Below.refl _ _).alloc (Nat.le_refl _) _)).setL
  have hnL : ¬ L = w.heap.size := by omega
  have C : Hid (((w.alloc (.cells #[.slice none 0 0] 31)).setCell ⟨L, 0, none⟩ (.int .i32 1)).cell? ⟨w.heap.size, 0, none⟩ = some (.slice none 0 0) ∧ ((w.alloc (.cells #[.slice none 0 0] 31)).setCell ⟨L, 0, none⟩ (.int .i32 1)).frozen? ⟨w.heap.size, 0, none⟩ = false ∧ ((w.alloc (.cells #[.slice none 0 0] 31)).setCell ⟨L, 0, none⟩ (.int .i32 1)).heap.size = w.heap.size + 1) := by
    refine ⟨?_, by simp [go_sem], by simp⟩
    rw [World.cell?_setCell_other _ _ _ _ (by intro e; injection e with e1 _ _; exact hnL e1)]; simp [go_sem]
  generalize hln : fs.length = n at *
  have Hn := hideP hln
  clear hln hv h hz
  go_enter_defers Tryz.func22, Tryz.ntmps22
  go_wp2_with fail
  refine (lock_free muLib ⟨L, 0, none⟩ _ m1 f1).mono ?_
  rintro e w' ⟨rfl, rfl⟩
  clear W1 m1 f1
  generalize ((w.alloc (.cells #[.slice none 0 0] 31)).setCell ⟨L, 0, none⟩ (.int .i32 1)) = W at W2 KP C ⊢
  have hW : W.heap.size = w.heap.size + 1 := C.out.2.2
  have hp := W2.out.p
  have hlen := W2.out.own.len
  rw [Hn.out] at hlen
  go_wp2_with (at_make; refine wpList_make_own _ rfl _ _ 29 rfl (w.heap.size + 1) 59 i0 (.agg #[.string ByteArray.empty, .string ByteArray.empty]) 2 Tryz.underlying29 hi hz0 hz1 _ _ _ n rfl rfl rfl ?b2 ?b3 ?b4 ?_)
  case b2 => rw [hz2]; omega
  case b3 => unfold maxLen; omega
  case b4 => omega
  intro w1 hown hgrow
  have B1 : Hid (Below W.heap.size W w1) := (Below.refl _ _).grown hgrow (Nat.le_refl _) (by intro k h; cases h)
  have O1 := hideP (show OwnF (w.heap.size + 1) w1 (.slice (some ⟨w.heap.size + 1, 0, none⟩) 0 n) [] from hown)
  have L1 := hideP (W2.out.keep B1.out)
  have hp1 := L1.out.p
  clear hown hgrow hp hlen hi hz0 hz1 hz2
  go_wp2_with fail
  refine (keys_calls b _).mono ?_
  rintro e w' ⟨rfl, rfl⟩
  go_wp2_with fail
  refine (sorted_calls b fs w1 L1.out.own HV.out.srt (by rw [Hn.out]; exact hl)).mono ?_
  rintro e w2 ⟨v, rfl, hnames, hb2⟩
  rw [Hn.out] at hnames
  have O2 := hideP (owns_keep O1.out hb2)
  have B2 := hideP (B1.out.trans (hb2.mono B1.out.size))
  have N2 := hideP (owns_base hnames (show w.heap.size + 1 ≤ w1.heap.size + 1 by have := B1.out.size; omega))
  obtain ⟨x2, y2, e2⟩ := own_form hnames
  subst e2
  clear hnames hb2 O1 L1 hp1
  go_wp2_with fail
  rw [hW] at B2
  go_loopw [3, 5, 26] (fun u _ i wr => ∃ k : Nat, k ≤ n ∧ i = .int .i64 k ∧ Hid (OwnF (w.heap.size + 1) wr u (fs.take k)) ∧ Hid (wr.ownsRow (w.heap.size + 1) 9 1 (.slice x2 n y2) n (fs.map fun f => .string f.1)) ∧ Hid (Below (w.heap.size + 1) W wr)) (fun _ _ i _ => n - (intOf i).toNat)
  case atStart => exact ⟨0, Nat.zero_le _, rfl, O2, N2, B2⟩
  case round =>
    clear O2 N2 B2 B1
    obtain ⟨k, hk, rfl, ho, hnm, hbel⟩ := hrel
    have LV := hideP (W2.out.below hbel.out (by omega) (by omega))
    have hsz : w.heap.size + 1 ≤ wr.heap.size := by have := hbel.out.size; omega
    obtain ⟨xo, yo, eo⟩ := own_form ho.out
    subst eo
    by_cases hlt : k < n
    · have hlk : k < fs.length := by rw [Hn.out]; exact hlt
      obtain ⟨g2, y3, e3⟩ : ∃ g2 y3, Value.slice x2 n y2 = .slice (some ⟨g2, 0, none⟩) n y3 := by
        rcases hnm.out.2 with ⟨e, h0⟩ | ⟨g, cap, cur, e, _⟩
        · omega
        · exact ⟨g, cap, e⟩
      have N3 := hnm.out
      rw [e3] at N3
      have hcell : wr.cell? ⟨g2, k, none⟩ = some (.string (Pl.at' fs k).1) := by
        rw [N3.cellAt k (by omega)]
        have e1 : Pl.at' fs k = fs[k] := by simp [Pl.at', List.getD, hlk]
        rw [e1]
        simp [hlk]
      simp only [Value.slice.injEq, true_and] at e3
      obtain ⟨rfl, rfl⟩ := e3
      have hzz := HZ.out _ (Pl.at_mem (l := fs) hlk)
      have NX := hideP (Pl.take_snoc fs k hlk)
      have hlook := LV.out.own.look (nm := (Pl.at' fs k).1) (by unfold maxLen; omega)
      rw [Pl.data_self HV.out.srt k hlk] at hlook
      have hll : (fs.take k).length ≤ n := by have := List.length_take_le' k fs; rw [Hn.out] at this; exact this
      have hp := LV.out.p
      have hfl := fld68
      clear N3
      generalize Pl.at' fs k = g at *
      obtain ⟨ga, gb⟩ := g
      simp only at hcell hlook hzz
      have OA : Hid (∀ o, OwnF (w.heap.size + 1) (wr.alloc o) (.slice xo (fs.take k).length yo) (fs.take k)) := fun o => ho.out.alloc o
      have RN := hideP (rdF_new wr (ga, gb) 59)
      have NA : Hid (∀ o, (wr.alloc o).ownsRow (w.heap.size + 1) 9 1 (.slice (some ⟨g2, 0, none⟩) n y2) n (fs.map fun f => .string f.1)) := fun o => hnm.out.alloc o
      have BB : Hid (∀ o, Below (w.heap.size + 1) W (wr.alloc o)) := fun o => hbel.out.alloc hsz o
      have OG : Hid (∀ kk, (Value.slice xo (fs.take k).length yo).ownBlock = some kk → w.heap.size + 1 ≤ kk) := fun kk hkk => (ho.out.lt kk hkk).1
      generalize fs.take k = ls at *
      go_wp2_with (at_builtin; refine wpList_append_F (base := w.heap.size + 1) _ rfl _ _ rfl _ _ rfl rfl ls [(ga, gb)] (OA.out _) RN.out (by simp; omega) (by simp; omega) ?_)
      intro v9 w9 ho9 hg9 _
      have O9 := hideP ho9
      have N9 := hideP ((NA.out _).kept hg9 (own_apart ho.out hnm.out (by decide)))
      have B9 := hideP ((BB.out _).grown hg9 (by simp; omega) OG.out)
      clear ho9 hg9
      go_wp2_with fail
      go_roundw
      case rel => exact ⟨k + 1, by omega, by go_num, by show OwnF _ _ _ _; rw [NX.out]; exact O9.out, N9, B9⟩
      case measure => simp [intOf]; omega
    · have OE : Hid (OwnF (w.heap.size + 1) wr (.slice xo (fs.take k).length yo) fs) := by
        have := ho.out
        rw [List.take_of_length_le (by rw [Hn.out]; omega)] at this
        show OwnF _ _ _ _
        rw [List.take_of_length_le (by rw [Hn.out]; omega)]
        exact this
      have e0 : (fs.take k).length = n := by rw [List.take_of_length_le (by rw [Hn.out]; omega)]; exact Hn.out
      rw [e0] at OE ⊢
      have OF := hideP (owF_of_own OE.out)
      have r1 := (hbel.out.cell (p := ⟨w.heap.size, 0, none⟩) (by show w.heap.size < _; omega)).trans C.out.1
      have g1 := (hbel.out.frozen (p := ⟨w.heap.size, 0, none⟩) (by show w.heap.size < _; omega)).trans C.out.2.1
      have LF := hideP (LV.out.far (N := w.heap.size) (o := 0) (v := .slice xo n yo) (by omega) (by omega))
      have m9 := LF.out.m
      have f9 := LF.out.mf
      have KF : Hid (Kp L b w (wr.setCell ⟨w.heap.size, 0, none⟩ (.slice xo n yo))) := by
        have hb := hbel.out
        have k1 : Kp L b w wr := ⟨hb.os.trans KP.out.os, hb.tape.trans KP.out.tape, hb.output.trans KP.out.output, by omega, fun j hj h1 h2 => (hb.block j (by omega)).trans (KP.out.block j hj h1 h2)⟩
        exact ⟨k1.os, k1.tape, k1.output, by simpa using k1.size, fun j hj h1 h2 => by rw [Below.heap_setCell _ _ _ _ (show ¬ j = w.heap.size by omega)]; exact k1.block j hj h1 h2⟩
      clear OE ho
      go_wp2_with fail
      refine leaves_cons (f := 35) (args := #[.pointer (some ⟨L, 0, none⟩)]) (by simp) (by simp [go_sem]) ?_
      refine (unlock_deferred muLib ⟨L, 0, none⟩ .returning _ m9 f9).mono ?_
      rintro e u' w'' ⟨rfl, rfl, rfl⟩
      refine ⟨.agg #[.slice xo n yo], ?_, _, rfl, ?_, KF.out.setL⟩
      · simp [results, Tryz.results22, go_sem, r1]
      · have h1 := OF.out.store (b := w.heap.size) (o := 0) (by omega) (.slice xo n yo)
        have h2 := h1.store (b := L) (o := 0) (by omega) (.int .i32 0)
        exact h2.base (by omega)

end Go.Proofs.YtfangdhbadmolaaGreatDoor
