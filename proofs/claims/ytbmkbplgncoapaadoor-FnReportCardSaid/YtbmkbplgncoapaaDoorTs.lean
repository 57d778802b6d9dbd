import Derived.Test.YtbmkbplgncoapaaDoorTr
namespace Go.Proofs.YtbmkbplgncoapaaDoor
open Go.RowKit
set_option linter.unusedVariables false

set_option maxRecDepth 100000 in
set_option maxHeartbeats 4000000 in
/-- spec.ParseTests -/
theorem specTests_any (s : ByteArray) (w : World) (hl : s.size ≤ 1048576) : Calls Tryd.prog 33 #[.string s] w (PtPost w (Pl.tests (bl s))) := by
  have A1 : Hid (Below w.heap.size w (w.alloc (.cells #[] 104))) := (Below.refl _ _).alloc (Nat.le_refl _) _
  by_cases hlong : 50000 < s.size
  · have hlong' : (50000 : Int) < (s.size : Int) := by omega
    have HR := hideP (tests_long (t := bl s) (by rw [bl_len]; exact hlong))
    go_enter Tryd.func33, Tryd.ntmps33
    go_wp2_with fail
    go_ret3
    exact pt_none A1.out HR.out
  · have hlong' : ¬ (50000 : Int) < (s.size : Int) := by omega
    have HR := hideP (tests_run (t := bl s) (by rw [bl_len]; omega))
    have A2 : Hid (Below w.heap.size w ((w.alloc (.cells #[] 104)).alloc (.cells #[] 104))) := A1.out.alloc (by simp) _
    have R2 : Hid (Rw w.heap.size ((w.alloc (.cells #[] 104)).alloc (.cells #[] 104)) (.slice (some ⟨w.heap.size + 1, 0, none⟩) 0 0) []) := by
      have := Rw.lit (w.alloc (.cells #[] 104)) w.heap.size (by simp)
      show Rw _ _ _ _
      simpa using this
    go_enter Tryd.func33, Tryd.ntmps33
    go_wp2_with fail
    refine (l1Cut_any s 10 10 rfl _ hl).mono ?_
    rintro e w1 ⟨vw, done, rfl, ow, hdone, hb1⟩
    have OW := hideP (owns_base ow (show w.heap.size ≤ ((w.alloc (.cells #[] 104)).alloc (.cells #[] 104)).heap.size by simp; omega))
    have B1 := hideP (A2.out.trans (hb1.mono A2.out.size))
    have R1 := hideP (R2.out.keep hb1)
    rw [← hdone] at HR
    have HLEN : Hid (∀ x ∈ done, x.size ≤ 1048576) := fun x hx => by
      have h1 : bl x ∈ Pl.cuts 10 (bl s) := by rw [← hdone]; exact List.mem_map_of_mem hx
      have h2 := Pl.cuts_len 10 (bl s) (bl x) h1
      rw [bl_len, bl_len] at h2
      omega
    have hdl : done.length ≤ 1048577 := by
      have := Pl.cuts_count 10 (bl s)
      rw [← hdone, List.length_map, bl_len] at this
      omega
    obtain ⟨xw, yw, ew⟩ := owns_form ow
    subst ew
    clear ow hb1 hdone A1 A2 R2
    obtain ⟨n, hn⟩ : ∃ n, done.length = n := ⟨_, rfl⟩
    have Hn := hideP hn
    rw [hn] at hdl OW ⊢
    clear hn
    go_wp2_with fail
    go_loopw [6, 8, 9, 10] (fun ov i _ _ wr => ∃ (k : Nat) (ts : List Pl.TT), k ≤ n ∧ i = .int .i64 (k : Int) ∧ ts.length ≤ 20 ∧ Hid (Rw w.heap.size wr ov ts) ∧ Hid (wr.ownsRow w.heap.size 9 1 (.slice xw n yw) n (done.map Value.string)) ∧ Hid (Below w.heap.size w wr) ∧ Hid (Pl.tests (bl s) = Pl.run k ts ((done.map bl).drop k))) (fun _ i _ _ _ => n - (intOf i).toNat)
    case atStart => exact ⟨0, [], Nat.zero_le _, rfl, by simp, R1, OW, B1, HR⟩
    case round =>
      obtain ⟨k, ts, hk, rfl, htl, hR, hW, BB, hM⟩ := hrel
      clear R1 OW B1 HR
      obtain ⟨xo, yo, eo⟩ := hR.out.form
      subst eo
      by_cases hlt : k < n
      · have hlt' : (k : Int) < (n : Int) := by omega
        obtain ⟨x, hx⟩ : ∃ x, done[k]? = some x := ⟨_, List.getElem?_eq_getElem (by rw [Hn.out]; exact hlt)⟩
        have hxl := HLEN.out x (List.mem_of_getElem? hx)
        obtain ⟨gw, eg⟩ : ∃ gw, xw = some ⟨gw, 0, none⟩ := by
          rcases hW.out.2 with ⟨e, h0⟩ | ⟨g, cp, cur, e, _⟩
          · omega
          · injection e with e1 _ _
            exact ⟨g, e1⟩
        subst eg
        have hc : wr.cell? ⟨gw, k, none⟩ = some (.string x) := by
          rw [hW.out.cellAt k (by omega), List.getElem?_map, hx]
          rfl
        have HD : Hid (Pl.tests (bl s) = Pl.run k ts (bl x :: (done.map bl).drop (k + 1))) := by
          show _ = _
          rw [hM.out, drop_done hx]
        clear hx hM
        by_cases hs : bl x = []
        · have hq : x.toList.isEmpty = true := by rw [ByteArray.toList_eq, List.isEmpty_iff]; exact hs
          have HZ := hideP (HD.out.trans (Pl.run_blank hs))
          clear HD hs
          go_wp2_with fail
          go_roundw
          case rel => exact ⟨k + 1, ts, by omega, by go_num, htl, hR, hW, BB, HZ⟩
          case measure => simp [intOf]; omega
        · have hq : x.toList.isEmpty = false := by rw [ByteArray.toList_eq, List.isEmpty_eq_false_iff]; exact hs
          have HS := hideP hs
          clear hs
          go_wp2_with fail
          refine (l5Test_any x _ hxl).mono ?_
          rintro e w3 ⟨hb3, u0, u1, u2, u3, a, b, c, d, ok, rfl, hf, hv⟩
          have W3 := hideP (owns_keep hW.out hb3)
          have B3 := hideP (BB.out.trans (hb3.mono BB.out.size))
          have M3 := hideP (Md.more hR.out hb3 hf BB.out.size)
          have form : ∀ p ∈ [(u0, a), (u1, b), (u2, c), (u3, d)], ∃ ao cap, p.1 = .slice ao p.2.length cap := fun p hp => (hf.1 p hp).form
          obtain ⟨a0, d0, e0⟩ := form (u0, a) (by simp)
          obtain ⟨a1, d1, e1⟩ := form (u1, b) (by simp)
          obtain ⟨a2, d2, e2⟩ := form (u2, c) (by simp)
          obtain ⟨a3, d3, e3⟩ := form (u3, d) (by simp)
          simp only at e0 e1 e2 e3
          subst e0
          subst e1
          subst e2
          subst e3
          have AL : Hid (Below w3.heap.size w3 (w3.alloc (.cells #[.slice a0 a.length d0, .slice a1 b.length d1, .slice a2 c.length d2, .slice a3 d.length d3] 104))) := (Below.refl _ _).alloc (Nat.le_refl _) _
          have B4 := hideP (B3.out.trans (AL.out.mono B3.out.size))
          clear hb3 hc form hf
          rcases hv with ⟨rfl, hv⟩ | ⟨rfl, hv⟩
          · by_cases h20 : ts.length = 20
            · have h20' : ((ts.length : Int) == 20) = true := by rw [beq_iff_eq]; omega
              have HZ := hideP (HD.out.trans (Pl.run_many HS.out hv h20))
              clear hv h20
              go_wp2_with fail
              go_ret3
              exact pt_none B4.out HZ.out
            · have h20' : ((ts.length : Int) == 20) = false := by rw [beq_eq_false_iff_ne]; omega
              have HZ := hideP (HD.out.trans (Pl.run_one HS.out hv h20))
              have htl' : ts.length + 1 ≤ 20 := by omega
              have AL5 : Hid (Below (w3.alloc (.cells #[.slice a0 a.length d0, .slice a1 b.length d1, .slice a2 c.length d2, .slice a3 d.length d3] 104)).heap.size (w3.alloc (.cells #[.slice a0 a.length d0, .slice a1 b.length d1, .slice a2 c.length d2, .slice a3 d.length d3] 104)) ((w3.alloc (.cells #[.slice a0 a.length d0, .slice a1 b.length d1, .slice a2 c.length d2, .slice a3 d.length d3] 104)).alloc (.cells #[.slice a0 a.length d0, .slice a1 b.length d1, .slice a2 c.length d2, .slice a3 d.length d3] 104))) := (Below.refl _ _).alloc (Nat.le_refl _) _
              have M5 := hideP ((M3.out.keep AL.out).keep AL5.out)
              have W5 := hideP (owns_keep (owns_keep W3.out AL.out) AL5.out)
              have B5 := hideP (B4.out.trans (AL5.out.mono B4.out.size))
              have C5 : Hid (∀ j u, [Value.slice a0 a.length d0, .slice a1 b.length d1, .slice a2 c.length d2, .slice a3 d.length d3][j]? = some u → ((w3.alloc (.cells #[.slice a0 a.length d0, .slice a1 b.length d1, .slice a2 c.length d2, .slice a3 d.length d3] 104)).alloc (.cells #[.slice a0 a.length d0, .slice a1 b.length d1, .slice a2 c.length d2, .slice a3 d.length d3] 104)).cell? ⟨w3.heap.size + 1, j, none⟩ = some u) := fun j u hj => by
                match j, hj with
                | 0, hj => simp at hj; subst hj; simp [go_sem]
                | 1, hj => simp at hj; subst hj; simp [go_sem]
                | 2, hj => simp at hj; subst hj; simp [go_sem]
                | 3, hj => simp at hj; subst hj; simp [go_sem]
                | j + 4, hj => simp at hj
              have hsz5 := hideP B5.out.size
              clear hv h20 M3 W3 B3 B4 AL AL5
              go_wp2_with (at_builtin; refine wpList_appT (base := w.heap.size) _ rfl (.tmp 49) (.tmp 51) rfl (.slice xo ts.length yo) rfl (w3.heap.size + 1) rfl ts (a, b, c, d) _ _ _ _ M5.out C5.out htl hsz5.out ?_)
              intro v2 w2 hr2 hg2
              have B2 : Hid (Below w.heap.size w w2) := B5.out.grown hg2 hsz5.out M5.out.lt
              have W2 : Hid (w2.ownsRow w.heap.size 9 1 (.slice (some ⟨gw, 0, none⟩) n yw) n (done.map Value.string)) := by
                obtain ⟨xs, hxs⟩ := M5.out.row
                exact W5.out.kept hg2 (owns_tag2 hxs W5.out (by decide))
              have R2 := hideP hr2
              have HL : Hid ((ts ++ [(a, b, c, d)]).length ≤ 20) := by show _ ≤ _; rw [List.length_append]; exact htl'
              clear hr2 hg2 htl' h20'
              go_wp2_with fail
              go_roundw
              case rel => exact ⟨k + 1, ts ++ [(a, b, c, d)], by omega, by go_num, HL.out, R2, W2, B2, HZ⟩
              case measure => simp [intOf]; omega
          · have HZ := hideP (HD.out.trans (Pl.run_bad HS.out hv))
            clear hv
            go_wp2_with fail
            go_ret3
            exact pt_none B4.out HZ.out
      · have hlt' : ¬ (k : Int) < (n : Int) := by omega
        have kn : k = n := by omega
        have HY : Hid (Pl.tests (bl s) = (ts, 0, 0)) := by
          show _ = _
          rw [hM.out, kn, ← Hn.out, ← List.length_map (f := bl), List.drop_length]
          rfl
        clear kn
        go_wp2_with fail
        go_ret3
        exact pt_some BB.out HY.out hR.out

end Go.Proofs.YtbmkbplgncoapaaDoor
