import Derived.Test.YtmobjomebmipdaaDy1
import Derived.Test.YtmobjomebmipdaaVec
import Derived.Test.YtmobjomebmipdaaTwoR
import Derived.Deep.LoopGhost
import Derived.WalkMore
namespace Go.Proofs.Ytmobjomebmipdaa
open Go.RowKit
set_option linter.unusedVariables false

namespace Pl
def findM (sa da sb db : List Int) : Int × List Int × List Int := if sa.length = 1 then (0, sb, db.map (fun v => ((findN da v : Nat) : Int))) else (2, [], [])
/-- the cells so far, and zeros -/
def upI (Q : Nat → Int) (N a : Nat) : List Int := (List.range a).map Q ++ List.replicate (N - a) 0
theorem upI_zero (Q : Nat → Int) (N : Nat) : upI Q N 0 = List.replicate N 0 := by simp [upI]
theorem upI_all (Q : Nat → Int) (N : Nat) : upI Q N N = (List.range N).map Q := by simp [upI]
theorem upI_len (Q : Nat → Int) {N a : Nat} (h : a ≤ N) : (upI Q N a).length = N := by simp [upI]; omega
theorem upI_step (Q : Nat → Int) {N a : Nat} (h : a < N) : (upI Q N a).set a (Q a) = upI Q N (a + 1) := by
  unfold upI
  rw [List.set_append_right _ _ (by simp), List.range_succ, List.map_append]
  have e : N - a = (N - (a + 1)) + 1 := by omega
  rw [e, List.replicate_succ]
  simp
theorem range_map (db : List Int) (f : Int → Int) : (List.range db.length).map (fun j => f (db.getD j 0)) = db.map f := by
  apply List.ext_getElem
  · simp
  · intro i h1 h2
    simp at h1 h2
    simp [List.getD, h1]
end Pl

set_option maxRecDepth 100000 in
set_option maxHeartbeats 8000000 in
/-- impl.find of valid arrays -/
theorem find_any (b0 b1 b2 b3 : Nat) (sa da sb db : List Int) (w : World)
    (h0 : Rd w.heap.size w (.slice (some ⟨b0, 0, none⟩) sa.length sa.length) sa) (h1 : Rd w.heap.size w (.slice (some ⟨b1, 0, none⟩) da.length da.length) da) (h2 : Rd w.heap.size w (.slice (some ⟨b2, 0, none⟩) sb.length sb.length) sb) (h3 : Rd w.heap.size w (.slice (some ⟨b3, 0, none⟩) db.length db.length) db)
    (oka : Pl.okB sa da = true) (okb : Pl.okB sb db = true) (c : Int) (S D : List Int) (hres : Pl.findM sa da sb db = (c, S, D)) :
    Calls Try.prog 126 #[.agg #[.slice (some ⟨b0, 0, none⟩) sa.length sa.length, .slice (some ⟨b1, 0, none⟩) da.length da.length], .agg #[.slice (some ⟨b2, 0, none⟩) sb.length sb.length, .slice (some ⟨b3, 0, none⟩) db.length db.length]] w (KPost w c S D) := by
  obtain ⟨i0, hi, hz0, hz1, hz2⟩ := info_parts Try.info3
  have HI := hideP (And.intro hi (And.intro hz0 (And.intro hz1 hz2)))
  clear hi hz0 hz1 hz2
  obtain ⟨hm0, hm1⟩ := Pl.ok_max oka
  obtain ⟨hm2, hm3⟩ := Pl.ok_max okb
  have B : Hid (∀ o o' o'', Below w.heap.size w (((w.alloc o).alloc o').alloc o'')) := fun o o' o'' => below3 w o o' o''
  have W0 := hideP (wid_new w h0 h1 h2 h3 27 27 27)
  have H1 := hideP h1
  have H2 := hideP h2
  have H3 := hideP h3
  have e := hres
  unfold Pl.findM at e
  by_cases hsa : sa.length = 1
  · rw [if_pos hsa] at e
    simp only [Prod.mk.injEq] at e
    obtain ⟨rfl, rfl, hD⟩ := e
    have hne : ((sa.length : Int) != 1) = false := by rw [hsa]; rfl
    have RM : Hid ((List.range db.length).map (fun j => ((Pl.findN da (db.getD j 0) : Nat) : Int)) = D) := by
      show _ = _
      rw [← hD]
      exact Pl.range_map db (fun v => ((Pl.findN da v : Nat) : Int))
    have hDl : D.length = db.length := by rw [← hD]; simp
    clear h0 h1 h2 h3 oka okb hres hsa hD
    generalize sa.length = lsa at *
    generalize hm : db.length = m at *
    have Hm : Hid (db.length = m) := hm
    generalize hla : da.length = la at *
    have Hla : Hid (da.length = la) := hla
    clear hm hla
    go_enter Try.func126, Try.ntmps126
    go_wp2_with fail
    go_step3
    go_wp2_with (first
      | (go_at_call 83; refine (refuse_no _ _).mono ?_; rintro e w' ⟨rfl, rfl⟩)
      | (at_make; refine wpList_make_full _ rfl _ _ 22 rfl (w.heap.size + 1 + 1 + 1) 3 i0 (.int .i64 0) 1 Try.underlying22 HI.out.1 HI.out.2.1 HI.out.2.2.1 _ _ _ _ m rfl rfl rfl rfl ?b2 ?b3 ?b4 ?_))
    case b2 => rw [HI.out.2.2.2]; omega
    case b3 => unfold maxLen; omega
    case b4 => simp
    intro w4 hown hgrow
    rw [made_zeros] at hown
    have W4 := hideP (W0.out.keep ((Below.refl _ _).grown hgrow (Nat.le_refl _) (by intro k h; cases h)))
    have hown' : w4.ownsRow (w.heap.size + 1 + 1 + 1) 3 1 (.slice (some ⟨w.heap.size + 1 + 1 + 1, 0, none⟩) m m) m ((List.replicate m (0 : Int)).map (Value.int .i64)) := by simpa using hown
    have HO4 := hideP hown'
    have CE : Hid (∀ W, Below (w.heap.size + 1 + 1 + 1) w4 W → (W.cell? ⟨w.heap.size, 1, none⟩ = some (.slice (some ⟨b1, 0, none⟩) la la) ∧ W.cell? ⟨w.heap.size + 1, 0, none⟩ = some (.slice (some ⟨b2, 0, none⟩) sb.length sb.length) ∧ W.cell? ⟨w.heap.size + 1, 1, none⟩ = some (.slice (some ⟨b3, 0, none⟩) m m)) ∧ (W.cell? ⟨w.heap.size + 1 + 1, 0, none⟩ = some (.slice none 0 0) ∧ W.cell? ⟨w.heap.size + 1 + 1, 1, none⟩ = some (.slice none 0 0) ∧ ∀ o, W.frozen? ⟨w.heap.size + 1 + 1, o, none⟩ = false) ∧ Below w.heap.size w W) := fun W hb => by
      obtain ⟨k1, k2, ⟨_, c1, c2, c3⟩, ⟨r0, r1, f⟩, _⟩ := W4.out
      exact ⟨⟨(hb.cell (p := ⟨w.heap.size, 1, none⟩) (by show w.heap.size < _; omega)).trans c1, (hb.cell (p := ⟨w.heap.size + 1, 0, none⟩) (by show w.heap.size + 1 < _; omega)).trans c2, (hb.cell (p := ⟨w.heap.size + 1, 1, none⟩) (by show w.heap.size + 1 < _; omega)).trans c3⟩,
        ⟨(hb.cell (p := ⟨w.heap.size + 1 + 1, 0, none⟩) (by show w.heap.size + 1 + 1 < _; omega)).trans r0, (hb.cell (p := ⟨w.heap.size + 1 + 1, 1, none⟩) (by show w.heap.size + 1 + 1 < _; omega)).trans r1, fun o => (hb.frozen (p := ⟨w.heap.size + 1 + 1, o, none⟩) (by show w.heap.size + 1 + 1 < _; omega)).trans (f o)⟩, k1.trans (hb.mono (by omega))⟩
    have cd := (CE.out w4 (Below.refl _ _)).1.2.2
    clear hown hown' hgrow W0
    go_wp2_with fail
    go_step3
    go_wp2_with fail
    clear cd
    go_loopg [6, 7, 8, 9, 22] m (fun g _ _ _ _ s22 wr => ∃ k : Nat, k + g = m ∧ s22 = .int .i64 k ∧ Hid (wr.ownsRow (w.heap.size + 1 + 1 + 1) 3 1 (.slice (some ⟨w.heap.size + 1 + 1 + 1, 0, none⟩) m m) m ((Pl.upI (fun j => ((Pl.findN da (db.getD j 0) : Nat) : Int)) m k).map (Value.int .i64))) ∧ Hid (Below (w.heap.size + 1 + 1 + 1) w4 wr))
    case atStart =>
      refine ⟨0, by omega, rfl, ?_, Below.refl _ _⟩
      show World.ownsRow _ _ _ _ _ _ _
      rw [Pl.upI_zero]
      exact HO4.out
    case round =>
      clear HO4
      obtain ⟨k, hkg, rfl, ho, hbel⟩ := hrel
      have ZR := hideP (CE.out wr hbel.out)
      cases gk with
      | zero =>
        have kz : ¬ ((k : Int) < (m : Int)) := by omega
        have km : k = m := by omega
        subst km
        rw [Pl.upI_all, RM.out] at ho
        have cs := ZR.out.1.2.1
        have RS := hideP ((H2.out.keep ZR.out.2.2).up ZR.out.2.2.size)
        have hs0 : w.heap.size + 1 + 1 + 1 ≤ wr.heap.size := by have := hbel.out.size; have := W4.out.2.1; omega
        have A1 : Hid (∀ o, Below wr.heap.size wr (wr.alloc o)) := fun o => (Below.refl _ _).alloc (Nat.le_refl _) _
        go_wp2_with fail
        refine (joined1_own wr.heap.size _ sb _ (by omega) (by simp) (by simp [go_sem]) ((RS.out.keep (A1.out _)).up (by simp))).mono ?_
        rintro e w5 ⟨ao, cap, rfl, ho5, hb5⟩
        have B5 : Hid (Below wr.heap.size wr w5) := (A1.out _).trans (hb5.mono (by simp))
        have hs5 := B5.out.size
        have Z5 := hideP (CE.out w5 (hbel.out.trans (B5.out.mono hs0)))
        have r0 := Z5.out.2.1.1
        have r1 := Z5.out.2.1.2.1
        have f2 := Z5.out.2.1.2.2
        have O5 := hideP (ho5.base (show wr.heap.size ≤ _ by simp))
        have OD : Hid (Own (w.heap.size + 1 + 1 + 1) w5 (.slice (some ⟨w.heap.size + 1 + 1 + 1, 0, none⟩) k k) D) := by
          have h := owns_keep ho.out B5.out
          rw [show k = D.length by rw [hDl]] at h ⊢
          exact own_of_any h
        clear hb5 ho5 cs
        go_wp2_with fail
        try rw [Exit.noGoto_ret]
        refine bodyPost_ret (v := .agg #[.slice ao sb.length cap, .slice (some ⟨w.heap.size + 1 + 1 + 1, 0, none⟩) k k]) (by simp [results, Try.results126, go_sem, r0, r1]) rfl ⟨(Z5.out.2.2.setCell (by simp; omega) _).setCell (by simp; omega) _, .inl ⟨rfl, _, _, rfl, ?_, ?_, ?_⟩⟩
        · exact Own.base (Own.store (Own.store O5.out (by omega) _) (by omega) _) (by omega)
        · exact Own.base (Own.store (Own.store OD.out (by omega) _) (by omega) _) (by omega)
        · exact apart_left O5.out (fun b h => (ho.out.lt b h).2)
      | succ g =>
        have hlt' : (k : Int) < (m : Int) := by omega
        have hck : wr.cell? ⟨b3, k, none⟩ = some (.int .i64 (db.getD k 0)) := by
          have := rd_cell (zs := db) (by rw [Hm.out]; exact H3.out) (i := k) (by rw [Hm.out]; omega)
          rw [Nat.zero_add] at this
          exact (ZR.out.2.2.cell (p := ⟨b3, k, none⟩) this.1).trans this.2
        have ce1 := ZR.out.1.1
        obtain ⟨x, hx⟩ : ∃ x, db.getD k 0 = x := ⟨_, rfl⟩
        have HX := hideP hx
        rw [hx] at hck
        clear hx
        go_wp2_with fail
        rename World => wk
        clear ce1 hck
        go_loopg [8, 9, 30] la (fun gi _ _ s30 wq => ∃ p : Nat, p + gi = la ∧ s30 = .int .i64 p ∧ wq = wk ∧ Hid (∀ j, j < p → ¬ da.getD j 0 = x))
        case atStart => exact ⟨0, by omega, rfl, rfl, fun j hj => absurd hj (Nat.not_lt_zero j)⟩
        case round =>
          obtain ⟨p, hpg, rfl, rfl, hnone⟩ := hrel
          rename World => wk
          cases gk with
          | zero =>
            have pl : p = la := by omega
            have pz : ¬ ((p : Int) < (la : Int)) := by omega
            have FN : Hid (Pl.findN da (db.getD k 0) = la) := by
              show _ = _
              rw [HX.out, Pl.findN_none da x (by rw [Hla.out, ← pl]; exact hnone.out), Hla.out]
            have ce1 := ZR.out.1.1
            have hfz := ho.out.frozenAt k
            have hst := ho.out.stored k (.int .i64 (la : Int))
            obtain ⟨u, hcg⟩ : ∃ u, wk.cell? ⟨w.heap.size + 1 + 1 + 1, k, none⟩ = some (.int .i64 u) := by
              rw [ho.out.cellAt k (by omega)]
              have hlen : k < (Pl.upI (fun j => ((Pl.findN da (db.getD j 0) : Nat) : Int)) m k).length := by rw [Pl.upI_len _ (by omega)]; omega
              exact ⟨(Pl.upI (fun j => ((Pl.findN da (db.getD j 0) : Nat) : Int)) m k)[k], by simp⟩
            have hsz : w.heap.size + 1 + 1 + 1 < wk.heap.size := World.block_lt_of_cell? wk _ hcg
            have R : Hid ((wk.setCell ⟨w.heap.size + 1 + 1 + 1, k, none⟩ (.int .i64 (la : Int))).ownsRow (w.heap.size + 1 + 1 + 1) 3 1 (.slice (some ⟨w.heap.size + 1 + 1 + 1, 0, none⟩) m m) m ((Pl.upI (fun j => ((Pl.findN da (db.getD j 0) : Nat) : Int)) m (k + 1)).map (Value.int .i64))) := by
              show World.ownsRow _ _ _ _ _ _ _
              rw [← Pl.upI_step (fun j => ((Pl.findN da (db.getD j 0) : Nat) : Int)) (show k < m by omega), FN.out, List.map_set]
              exact hst.1
            have S9 : Hid (Below (w.heap.size + 1 + 1 + 1) w4 (wk.setCell ⟨w.heap.size + 1 + 1 + 1, k, none⟩ (.int .i64 (la : Int)))) := hbel.out.setCell (Nat.le_refl _) _
            clear hst
            go_wp2_with fail
            go_roundg g
            case rel => exact ⟨k + 1, by omega, by go_num, R, S9⟩
            case measure => omega
          | succ gi =>
            have pt : (p : Int) < (la : Int) := by omega
            have hcp : wk.cell? ⟨b1, p, none⟩ = some (.int .i64 (da.getD p 0)) := by
              have := rd_cell (zs := da) (by rw [Hla.out]; exact H1.out) (i := p) (by rw [Hla.out]; omega)
              rw [Nat.zero_add] at this
              exact (ZR.out.2.2.cell (p := ⟨b1, p, none⟩) this.1).trans this.2
            by_cases he : da.getD p 0 = x
            · have FN : Hid (Pl.findN da (db.getD k 0) = p) := by
                show _ = _
                rw [HX.out, Pl.findN_at da x p (by rw [Hla.out]; omega) hnone.out he]
              rw [he] at hcp
              have test : (x == x) = true := by simp
              have hfz := ho.out.frozenAt k
              have hst := ho.out.stored k (.int .i64 (p : Int))
              obtain ⟨u, hcg⟩ : ∃ u, wk.cell? ⟨w.heap.size + 1 + 1 + 1, k, none⟩ = some (.int .i64 u) := by
                rw [ho.out.cellAt k (by omega)]
                have hlen : k < (Pl.upI (fun j => ((Pl.findN da (db.getD j 0) : Nat) : Int)) m k).length := by rw [Pl.upI_len _ (by omega)]; omega
                exact ⟨(Pl.upI (fun j => ((Pl.findN da (db.getD j 0) : Nat) : Int)) m k)[k], by simp⟩
              have hsz : w.heap.size + 1 + 1 + 1 < wk.heap.size := World.block_lt_of_cell? wk _ hcg
              have R : Hid ((wk.setCell ⟨w.heap.size + 1 + 1 + 1, k, none⟩ (.int .i64 (p : Int))).ownsRow (w.heap.size + 1 + 1 + 1) 3 1 (.slice (some ⟨w.heap.size + 1 + 1 + 1, 0, none⟩) m m) m ((Pl.upI (fun j => ((Pl.findN da (db.getD j 0) : Nat) : Int)) m (k + 1)).map (Value.int .i64))) := by
                show World.ownsRow _ _ _ _ _ _ _
                rw [← Pl.upI_step (fun j => ((Pl.findN da (db.getD j 0) : Nat) : Int)) (show k < m by omega), FN.out, List.map_set]
                exact hst.1
              have S9 : Hid (Below (w.heap.size + 1 + 1 + 1) w4 (wk.setCell ⟨w.heap.size + 1 + 1 + 1, k, none⟩ (.int .i64 (p : Int)))) := hbel.out.setCell (Nat.le_refl _) _
              clear hst
              clear he
              go_wp2_with fail
              go_roundg g
              case rel => exact ⟨k + 1, by omega, by go_num, R, S9⟩
              case measure => omega
            · have hn' : Hid (∀ j, j < p + 1 → ¬ da.getD j 0 = x) := fun j hj => by
                rcases Nat.lt_succ_iff_lt_or_eq.1 hj with h | h
                · exact hnone.out j h
                · rw [h]; exact he
              have test : (da.getD p 0 == x) = false := by rw [beq_eq_false_iff_ne]; exact he
              clear he
              generalize da.getD p 0 = y at *
              go_wp2_with fail
              go_roundg gi
              case rel => exact ⟨p + 1, by omega, by go_num, rfl, hn'⟩
              case measure => omega
  · rw [if_neg hsa] at e
    simp only [Prod.mk.injEq] at e
    obtain ⟨rfl, rfl, rfl⟩ := e
    have hne : ((sa.length : Int) != 1) = true := by rw [bne_iff_ne]; omega
    clear h0 h1 h2 h3 oka okb hres hsa
    generalize sa.length = lsa at *
    go_enter Try.func126, Try.ntmps126
    go_wp2_with fail
    go_step3
    go_wp2_with (go_at_call 83; refine (refuse_yes _ _).mono ?_; rintro e w' ⟨rfl, rfl⟩)
    exact ⟨rfl, B.out _ _ _, .inr ⟨by decide, rfl, rfl, rfl⟩⟩

end Go.Proofs.Ytmobjomebmipdaa
