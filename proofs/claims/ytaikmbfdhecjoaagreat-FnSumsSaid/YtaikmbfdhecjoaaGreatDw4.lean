import Derived.Test.YtaikmbfdhecjoaaGreatDw3
namespace Go.Proofs.YtaikmbfdhecjoaaGreat
open Go.RowKit
set_option linter.unusedVariables false

/-- a row of numbers of one's own, not nil -/
def Row (N : Nat) (w : World) (v : Value) (zs : List Int) : Prop := w.ownsRow N 3 1 v zs.length (zs.map (Value.int .i64)) ∧ ∃ g, v.ownBlock = some g
theorem Row.keep {N : Nat} {w w' : World} {v : Value} {zs : List Int} (h : Row N w v zs) (hb : Below w.heap.size w w') : Row N w' v zs := ⟨owns_keep h.1 hb, h.2⟩
theorem Row.other {N P : Nat} {w w' : World} {v : Value} {zs : List Int} {c : Array Value} {t : TypeId} (h : Row N w v zs) (hP : w.heap[P]? = some (.cells c t (0, 0))) (ht : ¬ t = 3) (hg : w.grownBy w' (some P)) : Row N w' v zs :=
  ⟨h.1.kept hg (.inr (own_blk_ne h.1 hP ht)), h.2⟩
theorem Row.base {N M : Nat} {w : World} {v : Value} {zs : List Int} (h : Row N w v zs) (hM : M ≤ N) : Row M w v zs := ⟨owns_base h.1 hM, h.2⟩
theorem Row.form {N : Nat} {w : World} {v : Value} {zs : List Int} (h : Row N w v zs) : ∃ g cap, v = .slice (some ⟨g, 0, none⟩) zs.length cap ∧ zs.length ≤ cap ∧ cap ≤ 9223372036854775807 := owns_some h.1 h.2
theorem Row.own {N : Nat} {w : World} {v : Value} {zs : List Int} (h : Row N w v zs) : Own N w v zs := own_of_any h.1

/-- the two answers' variables and the reader -/
structure TaSt (w0 w : World) : Prop where
  z0 : w.heap[w0.heap.size]? = some (.cells #[.slice none 0 0, .slice none 0 0] 25 (0, 0))
  z1 : w.heap[w0.heap.size + 1]? = some (.cells #[.slice none 0 0, .slice none 0 0] 25 (0, 0))
  r : Rdr (w0.heap.size + 2) (w0.heap.size + 2) w
  b : Below w0.heap.size w0 w
theorem TaSt.lt {w0 w : World} (h : TaSt w0 w) : w0.heap.size + 2 < w.heap.size := h.r.lt
theorem TaSt.keep {w0 w w' : World} (h : TaSt w0 w) (hb : Below w.heap.size w w') : TaSt w0 w' :=
  ⟨(hb.block _ (by have := h.lt; omega)).trans h.z0, (hb.block _ (by have := h.lt; omega)).trans h.z1, h.r.keep hb, h.b.trans (hb.mono h.b.size)⟩
theorem TaSt.next {w0 w w' : World} (h : TaSt w0 w) (hg : w.grownBy w' (some (w0.heap.size + 2))) (hr : Rdr (w0.heap.size + 2) (w0.heap.size + 2) w') : TaSt w0 w' :=
  ⟨(hg.block _ (by have := h.lt; omega) (by intro e; injection e with e; omega)).trans h.z0, (hg.block _ (by have := h.lt; omega) (by intro e; injection e with e; omega)).trans h.z1, hr, h.b.trans (grown_below hg (by omega) (by have := h.lt; omega))⟩
theorem TaSt.shape {w0 w w' : World} {v : Value} {zs : List Int} (h : TaSt w0 w) (hs : NsSt (w0.heap.size + 2) (w0.heap.size + 2) w v zs w') : TaSt w0 w' :=
  ⟨(hs.b.block _ (by omega)).trans h.z0, (hs.b.block _ (by omega)).trans h.z1, hs.r, h.b.trans (hs.b.mono (by omega))⟩

/-- what TwoArrays leaves -/
def TaPost (w : World) (e : Ending) (w' : World) : Prop :=
  ∃ (v0 v1 v2 v3 : Value) (sh da db : List Int), e = .returned (.tuple #[.agg #[v0, v1], .agg #[v2, v3]]) ∧ Pl.okB sh da = true ∧ Pl.okB sh db = true ∧ Row w.heap.size w' v0 sh ∧ Row w.heap.size w' v1 da ∧ Row w.heap.size w' v2 sh ∧ Row w.heap.size w' v3 db ∧ Below w.heap.size w w'

theorem ok_of {sh da : List Int} (hf : Pl.fitsB sh = true) (hl : (da.length : Int) = Pl.prodC sh) (hv : ∀ x ∈ da, -3000000000 ≤ x ∧ x ≤ 3000000000) : Pl.okB sh da = true := by
  simp only [Pl.okB, Bool.and_eq_true, decide_eq_true_eq, List.all_eq_true, Pl.valB]
  exact ⟨⟨hf, hl⟩, hv⟩

set_option maxRecDepth 100000 in
set_option maxHeartbeats 8000000 in
/-- spec.TwoArrays -/
theorem twoArrays_any (ao : Option Addr) (n cap : Nat) (w : World) (hn : n ≤ 1048576) (hcap : n ≤ cap) (hm : cap ≤ 9223372036854775807) (h : RdB w.heap.size w ao n) :
    Calls Tryz.prog 4 #[.slice ao n cap] w (TaPost w) := by
  have A2 : Below w.heap.size w ((w.alloc (.cells #[.slice none 0 0, .slice none 0 0] 25)).alloc (.cells #[.slice none 0 0, .slice none 0 0] 25)) := ((Below.refl _ _).alloc (Nat.le_refl _) _).alloc (by simp) _
  have e2 : ((w.alloc (.cells #[.slice none 0 0, .slice none 0 0] 25)).alloc (.cells #[.slice none 0 0, .slice none 0 0] 25)).heap.size = w.heap.size + 2 := by simp
  have K0 := l1Open_any ao n cap ((w.alloc (.cells #[.slice none 0 0, .slice none 0 0] 25)).alloc (.cells #[.slice none 0 0, .slice none 0 0] 25)) hn hcap hm (by
    have := h.keep A2
    rcases this with h1 | ⟨b, off, h1, h2, h3⟩
    · exact .inl h1
    · exact .inr ⟨b, off, by rw [e2]; omega, h2, h3⟩)
  rw [e2] at K0
  have z0 : ((w.alloc (.cells #[.slice none 0 0, .slice none 0 0] 25)).alloc (.cells #[.slice none 0 0, .slice none 0 0] 25)).heap[w.heap.size]? = some (.cells #[.slice none 0 0, .slice none 0 0] 25 (0, 0)) := by
    rw [Below.heap_alloc _ _ _ (by simp)]; exact heap_alloc_new w _
  have z1 : ((w.alloc (.cells #[.slice none 0 0, .slice none 0 0] 25)).alloc (.cells #[.slice none 0 0, .slice none 0 0] 25)).heap[w.heap.size + 1]? = some (.cells #[.slice none 0 0, .slice none 0 0] 25 (0, 0)) := by
    have := heap_alloc_new (w.alloc (.cells #[.slice none 0 0, .slice none 0 0] 25)) (.cells #[.slice none 0 0, .slice none 0 0] 25)
    simpa using this
  have KO : Hid (Calls Tryz.prog 14 #[.slice ao n cap] ((w.alloc (.cells #[.slice none 0 0, .slice none 0 0] 25)).alloc (.cells #[.slice none 0 0, .slice none 0 0] 25)) fun e w' => e = .returned (.pointer (some ⟨w.heap.size + 2, 0, none⟩)) ∧ TaSt w w') :=
    K0.mono fun e w' ⟨he, hr, hb⟩ => ⟨he, ⟨(hb.block _ (by omega)).trans z0, (hb.block _ (by omega)).trans z1, hr, A2.trans (hb.mono (by omega))⟩⟩
  clear K0 z0 z1 A2 e2 h
  go_enter Tryz.func4, Tryz.ntmps4
  go_wp2_with fail
  refine KO.out.mono ?_
  rintro e w1 ⟨rfl, hta⟩
  have T1 := hideP hta
  clear hta KO
  go_wp2_with fail
  refine (l1Shape_any _ _ _ (by have := T1.out.lt; omega) T1.out.r).mono ?_
  rintro e w2 ⟨sv, sh, rfl, hf, hns⟩
  have T2 := hideP (T1.out.shape hns)
  have V2 : Hid (Row w.heap.size w2 sv sh) := ⟨owns_base hns.o (by omega), hns.k⟩
  clear hns T1
  obtain ⟨sg, sc, es, hs1, hs2⟩ := V2.out.form
  subst es
  have HB : Hid (∀ {w' : World} {zs : List Int} {v : Value}, TaSt w w' → Row w.heap.size w' v zs → ∀ w'', w'.grownBy w'' (some (w.heap.size + 2)) → Rd w''.heap.size w'' v zs) := fun ht hr w'' hg => by
    obtain ⟨c, hc⟩ := ht.r.blk
    exact (hr.other hc (by decide) hg).own.rd
  go_wp2_with fail
  refine (l1Fill_any _ _ _ sh _ T2.out.r hf (HB.out T2.out V2.out)).mono ?_
  rintro e w3 ⟨va, da, rfl, hdl, hdr, ho, hk, hr, hg⟩
  have OKA := hideP (ok_of hf hdl hdr)
  have T3 := hideP (T2.out.next hg hr)
  have V3 : Hid (Row w.heap.size w3 (.slice (some ⟨sg, 0, none⟩) sh.length sc) sh) := by
    obtain ⟨c, hc⟩ := T2.out.r.blk
    exact V2.out.other hc (by decide) hg
  have D3 : Hid (Row w.heap.size w3 va da) := ⟨owns_base ho (by have := T2.out.lt; omega), hk⟩
  clear hdl hdr ho hk hr hg T2 V2
  obtain ⟨dg, dc, ed, hd1, hd2⟩ := D3.out.form
  subst ed
  go_upto_region 4 with fail
  have AL : Hid (Below w3.heap.size w3 (w3.alloc (.cells #[.slice (some ⟨sg, 0, none⟩) sh.length sc, .slice (some ⟨dg, 0, none⟩) da.length dc] 25)).drew) := ((Below.refl _ _).alloc (Nat.le_refl _) _).drew
  have T4 := hideP (T3.out.keep AL.out)
  have V4 := hideP (V3.out.keep AL.out)
  have D4 := hideP (D3.out.keep AL.out)
  have A4 : Hid ((w3.alloc (.cells #[.slice (some ⟨sg, 0, none⟩) sh.length sc, .slice (some ⟨dg, 0, none⟩) da.length dc] 25)).drew.heap[w3.heap.size]? = some (.cells #[.slice (some ⟨sg, 0, none⟩) sh.length sc, .slice (some ⟨dg, 0, none⟩) da.length dc] 25 (0, 0))) := heap_alloc_new w3 _
  have hA3 : w.heap.size + 2 < w3.heap.size := T3.out.lt
  clear AL T3 V3 D3
  refine wp_region_held (S := fun w' => w'.heap[w3.heap.size]? = some (.cells #[.slice (some ⟨sg, 0, none⟩) sh.length sc, .slice (some ⟨dg, 0, none⟩) da.length dc] 25 (0, 0))) (by kernel_rfl) ?_
  change wpAnyH _ _ _ _ _ _ _ _ (World.drew _)
  generalize World.drew (w3.alloc (.cells #[.slice (some ⟨sg, 0, none⟩) sh.length sc, .slice (some ⟨dg, 0, none⟩) da.length dc] 25)) = w4 at *
  refine wpAnyH_take (i := 0) (v := .agg #[.slice (some ⟨sg, 0, none⟩) sh.length sc, .slice (some ⟨dg, 0, none⟩) da.length dc]) rfl (by kernel_rfl) (by kernel_rfl) (by kernel_rfl) (fun _ _ _ h => h) (Or.inl ⟨by rfl, ?_⟩) A4.out ?_
  · intro w' hS
    have c0 : w'.cell? ⟨w3.heap.size, 0, none⟩ = some (.slice (some ⟨sg, 0, none⟩) sh.length sc) := by rw [Lib.cell_of_heap hS]; rfl
    have c1 : w'.cell? ⟨w3.heap.size, 1, none⟩ = some (.slice (some ⟨dg, 0, none⟩) da.length dc) := by rw [Lib.cell_of_heap hS]; rfl
    clear hS
    go_simp
  refine wpAnyH_take (i := 1) (v := .pointer (some ⟨w.heap.size + 2, 0, none⟩)) rfl (by kernel_rfl) (by kernel_rfl) (by kernel_rfl) (fun _ _ _ h => h) (Or.inl ⟨by rfl, ?_⟩) A4.out ?_
  · intro w' hS
    clear hS
    go_simp
  refine wpAnyH_take (i := 2) (v := .slice (some ⟨sg, 0, none⟩) sh.length sc) rfl (by kernel_rfl) (by kernel_rfl) (by kernel_rfl) (fun _ _ _ h => h) (Or.inl ⟨by rfl, ?_⟩) A4.out ?_
  · intro w' hS
    clear hS
    go_simp
  refine wpAnyH_ready (rs := [3]) (by kernel_rfl) (by simp) ?_
  refine AllReadyH.cons rfl (fun K hK => ?_) AllReadyH.nil
  go_simp
  have hsl : sh.length ≤ 1048576 := by have := (Pl.ok_max OKA.out).1; omega
  refine (l2Copy_at _ sh _ hsl V4.out.own.rd).mono ?_
  rintro e w5 ⟨tg, tc, rfl, ht1, ht2, ho5, hb5⟩
  have T5 := hideP (T4.out.keep hb5)
  have V5 := hideP (V4.out.keep hb5)
  have D5 := hideP (D4.out.keep hb5)
  have A5 : Hid (w5.heap[w3.heap.size]? = some (.cells #[.slice (some ⟨sg, 0, none⟩) sh.length sc, .slice (some ⟨dg, 0, none⟩) da.length dc] 25 (0, 0))) := (hb5.block _ (Array.getElem?_eq_some_iff.1 A4.out).1).trans A4.out
  have C5 : Hid (Row w.heap.size w5 (.slice (some ⟨tg, 0, none⟩) sh.length tc) sh) := ⟨owns_base ho5 (by have := T4.out.lt; omega), ⟨_, rfl⟩⟩
  clear hb5 ho5 T4 V4 D4 A4
  refine hK.out _ _ A5.out (fun _ => ?_)
  clear hK
  refine wpAnyH_ready (rs := [4]) (by kernel_rfl) (by simp) ?_
  refine AllReadyH.cons rfl (fun K hK => ?_) AllReadyH.nil
  go_simp
  refine (l1Fill_any _ _ _ sh _ T5.out.r hf (HB.out T5.out C5.out)).mono ?_
  rintro e w6 ⟨vb, db, rfl, hdl, hdr, ho, hk, hr, hg⟩
  have OKB := hideP (ok_of hf hdl hdr)
  have T6 := hideP (T5.out.next hg hr)
  have K6 : Hid (∀ {zs : List Int} {v : Value}, Row w.heap.size w5 v zs → Row w.heap.size w6 v zs) := fun hh => by
    obtain ⟨c, hc⟩ := T5.out.r.blk
    exact hh.other hc (by decide) hg
  have V6 := hideP (K6.out V5.out)
  have D6 := hideP (K6.out D5.out)
  have C6 := hideP (K6.out C5.out)
  have E6 : Hid (Row w.heap.size w6 vb db) := ⟨owns_base ho (by have := T5.out.lt; omega), hk⟩
  have A6 : Hid (w6.heap[w3.heap.size]? = some (.cells #[.slice (some ⟨sg, 0, none⟩) sh.length sc, .slice (some ⟨dg, 0, none⟩) da.length dc] 25 (0, 0))) :=
    (hg.block _ (Array.getElem?_eq_some_iff.1 A5.out).1 (by intro e; injection e with e; omega)).trans A5.out
  clear hdl hdr ho hk hr hg T5 V5 D5 C5 A5 K6 hf
  obtain ⟨bg, bc, eb, hb1, hb2⟩ := E6.out.form
  subst eb
  refine hK.out _ _ A6.out (fun _ => ?_)
  clear hK
  have z0 := T6.out.z0
  have z1 := T6.out.z1
  have hw6 := T6.out.lt
  have y0 : ∀ o, o < 2 → w6.cell? ⟨w.heap.size, o, none⟩ = some (.slice none 0 0) := fun o ho => by
    rw [Lib.cell_of_heap z0]; match o, ho with
    | 0, _ => rfl
    | 1, _ => rfl
  have y1 : ∀ o, o < 2 → w6.cell? ⟨w.heap.size + 1, o, none⟩ = some (.slice none 0 0) := fun o ho => by
    rw [Lib.cell_of_heap z1]; match o, ho with
    | 0, _ => rfl
    | 1, _ => rfl
  have a0 := y0 0 (by omega)
  have a1 := y0 1 (by omega)
  have b0 := y1 0 (by omega)
  have b1 := y1 1 (by omega)
  have f0 : ∀ o, w6.frozen? ⟨w.heap.size, o, none⟩ = false := fun o => frozen_of_row w6 w.heap.size o _ 25 z0
  have f1 : ∀ o, w6.frozen? ⟨w.heap.size + 1, o, none⟩ = false := fun o => frozen_of_row w6 (w.heap.size + 1) o _ 25 z1
  clear y0 y1 z0 z1
  have G0 : Hid (∀ (w' : World) (u0 u1 : Value) (q : Nat), ¬ q = w3.heap.size → w'.heap[w3.heap.size]? = some (.cells #[.slice (some ⟨sg, 0, none⟩) sh.length sc, .slice (some ⟨dg, 0, none⟩) da.length dc] 25 (0, 0)) →
      ((w'.setCell ⟨q, 0, none⟩ u0).setCell ⟨q, 1, none⟩ u1).heap[w3.heap.size]? = some (.cells #[.slice (some ⟨sg, 0, none⟩) sh.length sc, .slice (some ⟨dg, 0, none⟩) da.length dc] 25 (0, 0))) := fun w' u0 u1 q hq h => by
    rw [Below.heap_setCell _ _ _ _ (by simp; omega), Below.heap_setCell _ _ _ _ (by simp; omega)]
    exact h
  have FIN : Hid (∀ u0 u1 u2 u3, TaPost w (.returned (.tuple #[.agg #[.slice (some ⟨sg, 0, none⟩) sh.length sc, .slice (some ⟨dg, 0, none⟩) da.length dc], .agg #[.slice (some ⟨tg, 0, none⟩) sh.length tc, .slice (some ⟨bg, 0, none⟩) db.length bc]]))
      ((((w6.setCell ⟨w.heap.size, 0, none⟩ u0).setCell ⟨w.heap.size, 1, none⟩ u1).setCell ⟨w.heap.size + 1, 0, none⟩ u2).setCell ⟨w.heap.size + 1, 1, none⟩ u3)) := fun u0 u1 u2 u3 => by
    have st : ∀ {v : Value} {zs : List Int}, Row w.heap.size w6 v zs → Row w.heap.size ((((w6.setCell ⟨w.heap.size, 0, none⟩ u0).setCell ⟨w.heap.size, 1, none⟩ u1).setCell ⟨w.heap.size + 1, 0, none⟩ u2).setCell ⟨w.heap.size + 1, 1, none⟩ u3) v zs := fun {v zs} hh => by
      have h0 := own_blk_ne hh.1 T6.out.z0 (by decide)
      have h1 := own_blk_ne hh.1 T6.out.z1 (by decide)
      exact ⟨(((hh.1.kept (grown_set _ _ 0 u0) (.inr h0)).kept (grown_set _ _ 1 u1) (.inr h0)).kept (grown_set _ _ 0 u2) (.inr h1)).kept (grown_set _ _ 1 u3) (.inr h1), hh.2⟩
    exact ⟨_, _, _, _, sh, da, db, rfl, OKA.out, OKB.out, st V6.out, st D6.out, st C6.out, st E6.out, (((T6.out.b.setCell (by simp) _).setCell (by simp) _).setCell (by simp) _).setCell (by simp) _⟩
  clear T6 V6 D6 C6 E6 OKA OKB
  refine wpAnyH_ready (rs := [5]) (by kernel_rfl) (by simp) ?_
  refine AllReadyH.cons rfl (fun K hK => ?_) AllReadyH.nil
  go_simp
  refine hK.out _ _ (G0.out _ _ _ _ (by omega) A6.out) (fun _ => ?_)
  clear hK
  refine wpAnyH_ready (rs := [6]) (by kernel_rfl) (by simp) ?_
  refine AllReadyH.cons rfl (fun K hK => ?_) AllReadyH.nil
  go_simp
  refine hK.out _ _ (G0.out _ _ _ _ (by omega) (G0.out _ _ _ _ (by omega) A6.out)) (fun _ => ?_)
  clear hK
  refine wpAnyH_done (by kernel_rfl) ?_ _
  clear G0 A6 HB
  go_wp2_with fail
  refine bodyPost_ret (v := .tuple #[.agg #[.slice (some ⟨sg, 0, none⟩) sh.length sc, .slice (some ⟨dg, 0, none⟩) da.length dc], .agg #[.slice (some ⟨tg, 0, none⟩) sh.length tc, .slice (some ⟨bg, 0, none⟩) db.length bc]]) (by simp [results, Tryz.results4, go_sem, a0, a1, b0, b1]) rfl ?_
  exact FIN.out _ _ _ _

end Go.Proofs.YtaikmbfdhecjoaaGreat
