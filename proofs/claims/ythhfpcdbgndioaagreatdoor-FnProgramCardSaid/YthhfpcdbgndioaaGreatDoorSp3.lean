import Derived.Test.YthhfpcdbgndioaaGreatDoorDr8
import Derived.Test.YthhfpcdbgndioaaGreatDoorNto
namespace Go.Proofs.YthhfpcdbgndioaaGreatDoor
open Go.RowKit
set_option linter.unusedVariables false
set_option maxRecDepth 100000
namespace Pl
def gsts (bs : List Nat) (p : Nat) : Nat → List Tv × Nat
  | 0 => ([], p)
  | n + 1 => ((gsts bs p n).1 ++ [(gst bs (gsts bs p n).2).1], (gst bs (gsts bs p n).2).2)
theorem gsts_len (bs : List Nat) (p : Nat) : ∀ n, (gsts bs p n).1.length = n
  | 0 => rfl
  | n + 1 => by simp [gsts, gsts_len bs p n]
/-- spec.l3GenProgram -/
def gpr (bs : List Nat) (p : Nat) : List Tv × Nat := gsts bs (nx bs p).2 (1 + (nx bs p).1 % 4)
end Pl
set_option maxHeartbeats 4000000 in
/-- spec.l3GenProgram -/
theorem genProg_any (B P : Nat) (w : World) (bs : List Nat) (pos : Nat) (h : Rr B P w bs pos) : Calls Tryz.prog 11 #[.pointer (some ⟨P, 0, none⟩)] w fun e w' => ∃ v F, e = .returned v ∧ Dn 44 4 Qt B P w w' bs (Pl.gpr bs pos).2 [] v (Pl.gpr bs pos).1 F := by
  have hlt := h.lt
  have hbp := h.bp
  have K1 := hideP (nextx_any B P _ bs pos h)
  have hk : (Pl.nx bs pos).1 ≤ 255 := Pl.nx_le h.by_
  have HG := hideP (show Pl.gpr bs pos = Pl.gsts bs (Pl.nx bs pos).2 (1 + (Pl.nx bs pos).1 % 4) from rfl)
  generalize Pl.gpr bs pos = R at *
  clear h
  generalize Pl.nx bs pos = q at *
  obtain ⟨k, p1⟩ := q
  simp only at hk K1 HG
  have m4 : Int.tmod (k : Int) 4 = ((k % 4 : Nat) : Int) := by rw [Int.tmod_eq_emod_of_nonneg (by omega)]; omega
  have l4 : k % 4 ≤ 3 := by omega
  generalize k % 4 = x at *
  go_enter Tryz.func11, Tryz.ntmps11
  go_wp2_with fail
  refine K1.out.mono ?_
  rintro e w1 ⟨rfl, hd⟩
  have I0 := hideP (fun q hq => Dn.emp (w0 := w) 44 4 Qt hd.r (Kx.grown (A := [P]) hd.g (by simp)) q hq)
  have KC := hideP (fun (X : World) (p : Nat) (h : Rr B P X bs p) => genStmt_any B P X bs p h)
  have HN : Hid (∀ i, (Pl.gsts bs p1 i).1.length = i) := Pl.gsts_len bs p1
  have HCS : Hid (∀ i, Pl.gsts bs p1 (i + 1) = ((Pl.gsts bs p1 i).1 ++ [(Pl.gst bs (Pl.gsts bs p1 i).2).1], (Pl.gst bs (Pl.gsts bs p1 i).2).2)) := fun _ => rfl
  clear hd K1
  go_wp2_with fail
  go_loopw [4, 5] (fun v4 v5 wr => ∃ (i : Nat) (F : List Nat), v5 = .int .i64 (i : Int) ∧ i ≤ 1 + x ∧ Hid (Dn 44 4 Qt B P w wr bs (Pl.gsts bs p1 i).2 [] v4 (Pl.gsts bs p1 i).1 F)) (fun v4 v5 wr => 1 + x - (intOf v5).toNat)
  case atStart => exact ⟨0, _, rfl, by omega, I0.out _ rfl⟩
  case round =>
    rename World => wr
    obtain ⟨i, F, rfl, hi, HD⟩ := hrel
    obtain ⟨ao, cap, e4⟩ := HD.out.o.slice
    rw [HN.out i] at e4
    subst e4
    by_cases hlast : i < 1 + x
    · have hl' : (i : Int) < 1 + (x : Int) := by omega
      have KK := hideP (KC.out wr _ HD.out.r)
      have HS := HCS.out i
      generalize Pl.gst bs (Pl.gsts bs p1 i).2 = c9 at *
      obtain ⟨⟨tk, tn, tc, tg⟩, pi⟩ := c9
      simp only at KK HS
      go_wp2_with fail
      refine KK.out.mono ?_
      rintro e w2 ⟨v1, v2, F1, F2, rfl, d1, d2, dj⟩
      have E1 := hideP (HD.out.with_ Qt.lives d1)
      have E2 := hideP (HD.out.with_ Qt.lives d2).2
      have H1 := hideP d1
      have H2 := hideP d2
      obtain ⟨a1, n1, rfl⟩ := d1.o.slice
      obtain ⟨a2, n2, rfl⟩ := d2.o.slice
      clear d1 d2 KK
      generalize hl1 : tc.length = l1 at *
      generalize hl2 : tg.length = l2 at *
      go_wp2_with (at_builtin; refine wpList_append_o el22 Qt.lives _ rfl _ _ rfl _ _ _ _ _ rfl rfl (Pl.gsts bs p1 i).1 [⟨tk, tn, tc, tg⟩] F (F1 ++ F2) [.int .i64 tk, .string (Pl.ba tn), .slice a1 l1 n1, .slice a2 l2 n2] B ?ho ?hi ?hy ?hG ?hn ?hd rfl rfl ?hc ?h1 ?hbd ?hB ?_)
      case ho => exact (E1.out.1.alloc Qt.lives _).o
      case hi => exact (E1.out.1.alloc Qt.lives _).i
      case hy => exact RowQ.one ⟨_, _, F1, F2, rfl, rfl, (H1.out.alloc Qs.lives _).o, (H2.out.alloc Qg.lives _).o⟩
      case hG => exact (H1.out.alloc Qs.lives _).i.app (H2.out.alloc Qg.lives _).i
      case hn => rw [List.nodup_append]; exact ⟨H1.out.nd, H2.out.nd, fun x hx y hy e => dj x hx (e ▸ hy)⟩
      case hd => exact fun x hx => by rcases List.mem_append.1 hx with r | r; exact E1.out.2.1 x r; exact E2.out.1 x r
      case hc => exact cells_new (l := [.int .i64 tk, .string (Pl.ba tn), .slice a1 l1 n1, .slice a2 l2 n2]) rfl
      case h1 => simp [Value.oneCell']
      case hbd => simp [HN.out i]; omega
      case hB => have := E1.out.1.r.bp; have := E1.out.1.r.lt; simp; omega
      intro v9 w9 F9 ho9 hi9 hg9 _ hf9
      have D9 := hideP ((E1.out.1.alloc Qt.lives _).app' ho9 hi9 hg9 (G := F1 ++ F2) (fun x hx => by have := hf9 x hx; simp at this ⊢; rcases this with r | r | r; exact .inl r; exact .inr (.inl r); exact .inr (.inr (by omega))) (fun x hx => by rcases List.mem_append.1 hx with r | r; exact E1.out.2.2 x r; exact E2.out.2 x r))
      have hone := ho9.one
      clear ho9 hi9 hg9 hf9 HD E1 E2 H1 H2
      go_wp2_with fail
      go_roundw
      case rel => exact ⟨i + 1, F9, by simp, by omega, by rw [HS]; exact D9.out⟩
      case measure => simp [intOf]; omega
    · have hl' : ¬ (i : Int) < 1 + (x : Int) := by omega
      obtain rfl : i = 1 + x := by omega
      go_wp2_with fail
      refine bodyPost_ret (v := .slice ao (1 + x) cap) (by simp [results, Tryz.results11, go_sem]) rfl ?_
      rw [HG.out]
      first
        | exact ⟨_, F, rfl, HD.out⟩
        | exact ⟨_, rfl, F, HD.out⟩
theorem RowQ.split {α : Type} {z : Nat} {Q : World → List Value → α → List Nat → Prop} (hz : ∀ {w : World} {x : List Value} {a : α} {f : List Nat}, Q w x a f → x.length = z) {w : World} {a : α} {c2 : List α} : ∀ {c1 : List α} {xs : List Value} {fp : List Nat}, RowQ Q w xs (c1 ++ a :: c2) fp → ∃ x1 x x2 f1 f f2, xs = x1 ++ (x ++ x2) ∧ fp = f1 ++ (f ++ f2) ∧ RowQ Q w x1 c1 f1 ∧ Q w x a f ∧ RowQ Q w x2 c2 f2 ∧ x1.length = c1.length * z
  | [], xs, fp, h => by
    obtain ⟨x, xs', f, F', rfl, rfl, q1, q2⟩ := h
    exact ⟨[], x, xs', [], f, F', rfl, rfl, ⟨rfl, rfl⟩, q1, q2, by simp⟩
  | b :: c1, xs, fp, h => by
    obtain ⟨x, xs', f, F', rfl, rfl, q1, q2⟩ := h
    obtain ⟨x1, y, x2, f1, f', f2, rfl, rfl, r1, r2, r3, r4⟩ := RowQ.split hz q2
    refine ⟨x ++ x1, y, x2, f ++ f1, f', f2, by simp, by simp, ⟨x, x1, f, f1, rfl, rfl, q1, r1⟩, r2, r3, ?_⟩
    rw [List.length_append, r4, hz q1, List.length_cons, Nat.succ_mul]
    omega
/-- what a record is changed to in its row -/
structure Wrt (w w' : World) (g o z : Nat) (f : List Nat) (x' : List Value) : Prop where
  sz : w.heap.size ≤ w'.heap.size
  bl : ∀ b, b < w.heap.size → b ≠ g → b ∉ f → w'.heap[b]? = w.heap[b]?
  ce : ∀ j, (j < o ∨ o + z ≤ j) → w'.cell? ⟨g, j, none⟩ = w.cell? ⟨g, j, none⟩
  fr : ∀ j, w'.frozen? ⟨g, j, none⟩ = false
  nw : ∀ j u, x'[j]? = some u → w'.cell? ⟨g, o + j, none⟩ = some u
theorem Hd.refocus {α : Type} {z : Nat} {Q R : World → List Value → α → List Nat → Prop} (LQ : Lives Q) (hQR : ∀ w x a f, Q w x a f → (∀ b ∈ f, b < w.heap.size) → R w x a f) (hz : ∀ {w : World} {x : List Value} {a : α} {f : List Nat}, Q w x a f → x.length = z) (hzR : ∀ {w : World} {x : List Value} {a : α} {f : List Nat}, R w x a f → x.length = z) {w : World} {v : Value} {c1 : List α} {a : α} {c2 : List α} {F : List Nat} (h : Hd z Q w v (c1 ++ a :: c2) F) :
    ∃ g cap x f, v = .slice (some ⟨g, 0, none⟩) (c1 ++ a :: c2).length cap ∧ Q w x a f ∧ (∀ j u, x[j]? = some u → w.cell? ⟨g, c1.length * z + j, none⟩ = some u) ∧ (∀ j, w.frozen? ⟨g, j, none⟩ = false) ∧ g ∈ F ∧ g < w.heap.size ∧ g ∉ f ∧ (∀ b ∈ f, b ∈ F ∧ b < w.heap.size) ∧ f.Nodup ∧
      ∀ (w' : World) (x' : List Value) (a' : α) (f' : List Nat), Wrt w w' g (c1.length * z) z f x' → R w' x' a' f' → f'.Nodup → (∀ b ∈ f', b < w'.heap.size ∧ b ≠ g ∧ (b ∈ f ∨ w.heap.size ≤ b)) → ∃ F', Hd z R w' v (c1 ++ a' :: c2) F' ∧ ∀ b ∈ F', b ∈ F ∨ w.heap.size ≤ b := by
  obtain ⟨ao, cap, rfl, h⟩ := h
  rcases h with h | ⟨g, xs, fp, rfl, rfl, h1, h2, h3, h4, h5⟩
  · simp at h
  obtain ⟨x1, x, x2, f1, f, f2, rfl, rfl, r1, r2, r3, r4⟩ := RowQ.split hz h1
  have hx := hz r2
  have hnd := h2
  rw [List.nodup_cons, List.nodup_append, List.nodup_append] at hnd
  obtain ⟨hg, n1, ⟨n2, n3, n23⟩, n123⟩ := hnd
  have hgf : g ∉ f := fun hm => hg (by simp [hm])
  have hcell : ∀ j u, x[j]? = some u → w.cell? ⟨g, c1.length * z + j, none⟩ = some u := fun j u hu => by
    refine h4 _ u ?_
    have hj : j < x.length := (List.getElem?_eq_some_iff.1 hu).1
    rw [List.getElem?_append_right (by omega), List.getElem?_append_left (by omega)]
    rw [← hu]
    congr 1
    omega
  refine ⟨g, cap, x, f, rfl, r2, hcell, h5, by simp, h3 g (by simp), hgf, fun b hb => ⟨by simp [hb], h3 b (by simp [hb])⟩, n2, fun w' x' a' f' hW hR hn' hf' => ?_⟩
  have k1 : ∀ b ∈ f1, w'.heap[b]? = w.heap[b]? := fun b hb => hW.bl b (h3 b (by simp [hb])) (fun e => hg (by rw [← e]; simp [hb])) (fun hm => n123 b hb b (by simp [hm]) rfl)
  have k2 : ∀ b ∈ f2, w'.heap[b]? = w.heap[b]? := fun b hb => hW.bl b (h3 b (by simp [hb])) (fun e => hg (by rw [← e]; simp [hb])) (fun hm => n23 b hm b hb rfl)
  have hx' := hzR hR
  have lt' : ∀ b, b < w.heap.size → b < w'.heap.size := fun b hb => Nat.lt_of_lt_of_le hb hW.sz
  have q1 : RowQ R w' x1 c1 f1 := (r1.keep LQ k1).map hQR (fun b hb => lt' b (h3 b (by simp [hb])))
  have q2 : RowQ R w' x2 c2 f2 := (r3.keep LQ k2).map hQR (fun b hb => lt' b (h3 b (by simp [hb])))
  have nin : ∀ b ∈ f', b ∉ f1 ∧ b ∉ f2 := fun b hb => by
    obtain ⟨_, _, hm | hm⟩ := hf' b hb
    · exact ⟨fun h1 => n123 b h1 b (by simp [hm]) rfl, fun h1 => n23 b hm b h1 rfl⟩
    · exact ⟨fun h1 => by have := h3 b (by simp [h1]); omega, fun h1 => by have := h3 b (by simp [h1]); omega⟩
  refine ⟨g :: (f1 ++ (f' ++ f2)), ⟨some ⟨g, 0, none⟩, cap, by simp, .inr ⟨g, x1 ++ (x' ++ x2), f1 ++ (f' ++ f2), rfl, rfl, q1.app (c := c1) (d := a' :: c2) ⟨x', x2, f', f2, rfl, rfl, hR, q2⟩, ?_, fun b hb => ?_, fun j u hu => ?_, hW.fr⟩⟩, fun b hb => ?_⟩
  · rw [List.nodup_cons, List.nodup_append, List.nodup_append]
    refine ⟨fun hm => ?_, n1, ⟨hn', n3, fun p hp q hq e => (nin p hp).2 (e ▸ hq)⟩, fun p hp q hq e => ?_⟩
    · rcases List.mem_append.1 hm with r | r
      · exact hg (by simp [r])
      · rcases List.mem_append.1 r with r | r
        · exact (hf' g r).2.1 rfl
        · exact hg (by simp [r])
    · subst e
      rcases List.mem_append.1 hq with r | r
      · exact (nin p r).1 hp
      · exact n123 p hp p (by simp [r]) rfl
  · simp at hb
    rcases hb with rfl | r | r | r
    · exact lt' _ (h3 _ (by simp))
    · exact lt' _ (h3 _ (by simp [r]))
    · exact (hf' b r).1
    · exact lt' _ (h3 _ (by simp [r]))
  · by_cases hj1 : j < c1.length * z
    · rw [hW.ce j (.inl hj1)]
      refine h4 j u ?_
      rw [List.getElem?_append_left (by omega)] at hu ⊢
      exact hu
    · by_cases hj2 : j < c1.length * z + z
      · have := hW.nw (j - c1.length * z) u (by
          rw [List.getElem?_append_right (by omega), List.getElem?_append_left (by omega)] at hu
          rw [← hu]
          congr 1
          omega)
        rw [show c1.length * z + (j - c1.length * z) = j by omega] at this
        exact this
      · rw [hW.ce j (.inr (by omega))]
        refine h4 j u ?_
        rw [List.getElem?_append_right (by omega), List.getElem?_append_right (by omega)] at hu ⊢
        rw [hx'] at hu
        rw [hx]
        exact hu
  · simp at hb
    rcases hb with rfl | r | r | r
    · exact .inl (by simp)
    · exact .inl (by simp [r])
    · obtain ⟨_, _, hm | hm⟩ := hf' b r
      · exact .inl (by simp [hm])
      · exact .inr hm
    · exact .inl (by simp [r])
/-- the first ones of a list -/
theorem Hd.take {α : Type} {z : Nat} {Q : World → List Value → α → List Nat → Prop} (hz : ∀ {w : World} {x : List Value} {a : α} {f : List Nat}, Q w x a f → x.length = z) {w : World} {ao : Option Addr} {n cap : Nat} {c1 : List α} {a : α} {c2 : List α} {F : List Nat} (h : Hd z Q w (.slice ao n cap) (c1 ++ a :: c2) F) : ∃ F', Hd z Q w (.slice ao c1.length cap) c1 F' ∧ F'.Nodup ∧ ∀ b ∈ F', b ∈ F := by
  obtain ⟨ao', cap', e, h⟩ := h
  cases e
  rcases h with h | ⟨g, xs, fp, rfl, rfl, h1, h2, h3, h4, h5⟩
  · simp at h
  obtain ⟨x1, x, x2, f1, f, f2, rfl, rfl, r1, r2, r3, r4⟩ := RowQ.split hz h1
  have hn : (g :: f1).Nodup := by
    rw [List.nodup_cons] at h2 ⊢
    exact ⟨fun hm => h2.1 (by simp [hm]), (List.nodup_append.1 h2.2).1⟩
  refine ⟨g :: f1, ⟨_, cap, rfl, .inr ⟨g, x1, f1, rfl, rfl, r1, hn, fun b hb => h3 b (by simp at hb ⊢; rcases hb with r | r; exact .inl r; exact .inr (.inl r)), fun j u hu => h4 j u ?_, h5⟩⟩, hn, fun b hb => by simp at hb ⊢; rcases hb with r | r; exact .inl r; exact .inr (.inl r)⟩
  rw [List.getElem?_append_left (List.getElem?_eq_some_iff.1 hu).1]
  exact hu
/-- one cell of a record is put -/
theorem Wrt.one {w w0 : World} {g o z j0 : Nat} {f : List Nat} {x : List Value} {u : Value} (hsz : w.heap.size ≤ w0.heap.size) (hbl : ∀ b, b < w.heap.size → b ∉ f → w0.heap[b]? = w.heap[b]?) (hg : g < w.heap.size) (hgf : g ∉ f) (hj : j0 < x.length) (hxz : x.length = z) (hc : ∀ j u, x[j]? = some u → w.cell? ⟨g, o + j, none⟩ = some u) (hf : ∀ j, w.frozen? ⟨g, j, none⟩ = false) : Wrt w (w0.setCell ⟨g, o + j0, none⟩ u) g o z f (x.set j0 u) := by
  have hgb := hbl g hg hgf
  have c0 : ∀ j, w0.cell? ⟨g, j, none⟩ = w.cell? ⟨g, j, none⟩ := fun j => World.cell?_of_block hgb
  refine ⟨by simpa using hsz, fun b hb hbg hbf => (heap_setCell_other _ ⟨g, o + j0, none⟩ _ _ (by simpa using hbg)).trans (hbl b hb hbf), fun j hj' => (World.cell?_setCell_other _ _ _ _ (by first | (simp; done) | (simp; omega))).trans (c0 j), fun j => by rw [World.frozen?_setCell]; exact (World.frozen?_of_block (a := ⟨g, j, none⟩) hgb).trans (hf j), fun j v hv => ?_⟩
  rw [List.getElem?_set] at hv
  by_cases e : j0 = j
  · subst e
    simp [hj] at hv
    subst hv
    exact World.cell?_setCell_same _ _ _ ((c0 _).trans (hc j0 _ (List.getElem?_eq_getElem hj)))
  · rw [if_neg e] at hv
    exact (World.cell?_setCell_other _ _ _ _ (by first | (simp; done) | (simp; omega))).trans ((c0 _).trans (hc j v hv))
/-- four cells of a record are put -/
theorem Wrt.four {w w0 : World} {g o : Nat} {f : List Nat} {x : List Value} {a b c d : Value} (hsz : w.heap.size ≤ w0.heap.size) (hbl : ∀ b, b < w.heap.size → b ∉ f → w0.heap[b]? = w.heap[b]?) (hg : g < w.heap.size) (hgf : g ∉ f) (hxz : x.length = 4) (hc : ∀ j u, x[j]? = some u → w.cell? ⟨g, o + j, none⟩ = some u) (hf : ∀ j, w.frozen? ⟨g, j, none⟩ = false) : Wrt w ((((w0.setCell ⟨g, o, none⟩ a).setCell ⟨g, o + 1, none⟩ b).setCell ⟨g, o + 2, none⟩ c).setCell ⟨g, o + 3, none⟩ d) g o 4 f [a, b, c, d] := by
  have hgb := hbl g hg hgf
  have c0 : ∀ j, w0.cell? ⟨g, j, none⟩ = w.cell? ⟨g, j, none⟩ := fun j => World.cell?_of_block hgb
  have hx : ∀ j, j < 4 → ∃ u, w0.cell? ⟨g, o + j, none⟩ = some u := fun j hj => ⟨_, (c0 _).trans (hc j _ (List.getElem?_eq_getElem (by omega)))⟩
  obtain ⟨u0, e0⟩ := hx 0 (by omega)
  obtain ⟨u1, e1⟩ := hx 1 (by omega)
  obtain ⟨u2, e2⟩ := hx 2 (by omega)
  obtain ⟨u3, e3⟩ := hx 3 (by omega)
  rw [Nat.add_zero] at e0
  refine ⟨by simpa using hsz, fun b hb hbg hbf => ?_, fun j hj' => ?_, fun j => ?_, fun j v hv => ?_⟩
  · rw [heap_setCell_other _ _ _ _ (by simpa using hbg), heap_setCell_other _ _ _ _ (by simpa using hbg), heap_setCell_other _ _ _ _ (by simpa using hbg), heap_setCell_other _ _ _ _ (by simpa using hbg)]
    exact hbl b hb hbf
  · rw [World.cell?_setCell_other _ _ _ _ (by first | (simp; done) | (simp; omega)), World.cell?_setCell_other _ _ _ _ (by first | (simp; done) | (simp; omega)), World.cell?_setCell_other _ _ _ _ (by first | (simp; done) | (simp; omega)), World.cell?_setCell_other _ _ _ _ (by first | (simp; done) | (simp; omega))]
    exact c0 j
  · rw [World.frozen?_setCell, World.frozen?_setCell, World.frozen?_setCell, World.frozen?_setCell]
    exact (World.frozen?_of_block (a := ⟨g, j, none⟩) hgb).trans (hf j)
  · match j, hv with
    | 0, hv => simp at hv; subst hv; rw [World.cell?_setCell_other _ _ _ _ (by simp), World.cell?_setCell_other _ _ _ _ (by simp), World.cell?_setCell_other _ _ _ _ (by simp)]; exact World.cell?_setCell_same _ _ _ e0
    | 1, hv => simp at hv; subst hv; rw [World.cell?_setCell_other _ _ _ _ (by simp), World.cell?_setCell_other _ _ _ _ (by simp)]; exact World.cell?_setCell_same _ _ _ ((World.cell?_setCell_other _ _ _ _ (by simp)).trans e1)
    | 2, hv => simp at hv; subst hv; rw [World.cell?_setCell_other _ _ _ _ (by simp)]; exact World.cell?_setCell_same _ _ _ ((World.cell?_setCell_other _ _ _ _ (by simp)).trans ((World.cell?_setCell_other _ _ _ _ (by simp)).trans e2))
    | 3, hv => simp at hv; subst hv; exact World.cell?_setCell_same _ _ _ ((World.cell?_setCell_other _ _ _ _ (by simp)).trans ((World.cell?_setCell_other _ _ _ _ (by simp)).trans ((World.cell?_setCell_other _ _ _ _ (by simp)).trans e3)))
    | j + 4, hv => simp at hv
namespace Pl
def nm6 (j : Nat) : List UInt8 := if j = 0 then [70] else if j = 1 then [120] else if j = 2 then [115, 101, 108, 102] else if j = 3 then [116, 97, 107, 101] else if j = 4 then [49, 120] else [97, 98, 99, 100, 101, 102, 103, 104, 105, 106, 97, 98, 99, 100, 101, 102, 103, 104, 105, 106, 107]
def modL {α : Type} (c : List α) (m : Nat) (f : α → α) : List α := c.take m ++ (match c[m]? with | some t => f t :: c.drop (m + 1) | none => [])
theorem modL_at {α : Type} (c1 : List α) (a : α) (c2 : List α) (f : α → α) : modL (c1 ++ a :: c2) c1.length f = c1 ++ f a :: c2 := by simp [modL]
def spS (k v m : Nat) (s : Tv) : Tv :=
  if k = 0 then { s with k := ((v % 5 : Nat) : Int) }
  else if k = 1 then { s with nm := nm6 (v % 6) }
  else if k = 2 then { s with code := s.code.take m }
  else if k = 3 then { s with code := modL s.code m fun t => { t with k := ((v / 16 % 6 : Nat) : Int) } }
  else if k = 4 then { s with code := modL s.code m fun t => { t with fn := { t.fn with a := ((v / 16 : Nat) : Int) - 2 } } }
  else if k = 5 then { s with code := modL s.code m fun t => { t with fn := { t.fn with k := ((v / 16 : Nat) : Int) } } }
  else if k = 6 then { s with code := modL s.code m fun t => { t with nums := t.nums ++ [3000000000 + ((v % 2 : Nat) : Int)] } }
  else if k = 7 then { s with gs := s.gs ++ [⟨[], []⟩] }
  else { s with code := modL s.code m fun t => { t with nm := [120] } }
/-- spec.l3Spoil -/
def spo (bs : List Nat) (p : Nat) (l : List Tv) : List Tv :=
  modL l ((nx bs (nx bs p).2).1 % l.length) fun s => spS ((nx bs p).1 % 9) (nx bs (nx bs (nx bs p).2).2).1 ((nx bs (nx bs (nx bs p).2).2).1 % s.code.length) s
end Pl
abbrev set4 (X : World) (g o : Nat) (a b c d : Value) : World := (((X.setCell ⟨g, o, none⟩ a).setCell ⟨g, o + 1, none⟩ b).setCell ⟨g, o + 2, none⟩ c).setCell ⟨g, o + 3, none⟩ d
/-- the statement that is to be spoilt, where it lies -/
structure Sq (P : Nat) (w0 w : World) (g o : Nat) (v : Value) (q1 : List Pl.Tv) (t : Pl.Tv) (q2 : List Pl.Tv) (v1 v2 : Value) (f1 f2 : List Nat) : Prop where
  k : Kx w0 w [P]
  oc : OwS w v1 t.code f1
  og : OwG w v2 t.gs f2
  x : ∀ j u, ([.int .i64 t.k, .string (Pl.ba t.nm), v1, v2] : List Value)[j]? = some u → w.cell? ⟨g, o + j, none⟩ = some u
  fz : ∀ j, w.frozen? ⟨g, j, none⟩ = false
  gl : g < w.heap.size ∧ w0.heap.size ≤ g ∧ g ∉ f1 ++ f2
  fl : ∀ b ∈ f1 ++ f2, b < w.heap.size ∧ w0.heap.size ≤ b ∧ b ≠ P
  nd : (f1 ++ f2).Nodup
  re : ∀ (w' : World) (x' : List Value) (a' : Pl.Tv) (f' : List Nat), Wrt w w' g o 4 (f1 ++ f2) x' → Qt' w' x' a' f' → f'.Nodup → (∀ b ∈ f', b < w'.heap.size ∧ b ≠ g ∧ (b ∈ f1 ++ f2 ∨ w.heap.size ≤ b)) → ∃ F', HdP w' v (q1 ++ a' :: q2) F'
/-- one place of a list that was drawn -/
theorem Dn.place {B P : Nat} {w0 w : World} {bs : List Nat} {pos : Nat} {v : Value} {q1 : List Pl.Tv} {t : Pl.Tv} {q2 : List Pl.Tv} {F : List Nat} (h : Dn 44 4 Qt B P w0 w bs pos [] v (q1 ++ t :: q2) F) : ∃ g cap v1 v2 f1 f2, v = .slice (some ⟨g, 0, none⟩) (q1 ++ t :: q2).length cap ∧ Sq P w0 w g (q1.length * 4) v q1 t q2 v1 v2 f1 f2 := by
  have hF : ∀ b ∈ F, w0.heap.size ≤ b := fun b hb => by rcases h.f b hb with r | r; exact absurd r (by simp); exact r
  have hH : Hd 4 Qt w v (q1 ++ t :: q2) F := h.o.hd (fun _ _ _ _ h _ => h) (fun b hb => (h.i b hb).2)
  obtain ⟨g, cap, x, f, hv, hQ, hx, hfz, hgF, hgl, hgf, hfF, hfn, hre⟩ := hH.refocus (R := Qt') Qt.lives Qt.to (fun h => by obtain ⟨v1, v2, f1, f2, rfl, _⟩ := h; rfl) Qt'.len
  obtain ⟨v1, v2, f1, f2, rfl, rfl, h3, h4⟩ := hQ
  exact ⟨g, cap, v1, v2, f1, f2, hv, h.k, h3, h4, hx, hfz, ⟨hgl, hF g hgF, hgf⟩, fun b hb => ⟨(hfF b hb).2, hF b (hfF b hb).1, fun e => h.p (e ▸ (hfF b hb).1)⟩, hfn, fun w' x' a' f' h1 h2 h3 h4 => by obtain ⟨F', hh, _⟩ := hre w' x' a' f' h1 h2 h3 h4; exact ⟨F', hh⟩⟩
/-- the statement is put back -/
theorem Sq.fin {P : Nat} {w0 w : World} {g o : Nat} {v : Value} {q1 : List Pl.Tv} {t : Pl.Tv} {q2 : List Pl.Tv} {v1 v2 : Value} {f1 f2 : List Nat} (h : Sq P w0 w g o v q1 t q2 v1 v2 f1 f2) {X : World} {A : List Nat} (hk : Kx w X A) (hA : ∀ x ∈ A, x ∈ f1 ++ f2 ∨ w.heap.size ≤ x) {v1' v2' : Value} {c' : List Pl.Sv} {g' : List Pl.Gv} {f1' f2' : List Nat} (H1 : HdS X v1' c' f1') (H2 : HdG X v2' g' f2') (hn : (f1' ++ f2').Nodup) (hb : ∀ b ∈ f1' ++ f2', b < X.heap.size ∧ b ≠ g ∧ (b ∈ f1 ++ f2 ∨ w.heap.size ≤ b)) (k' : Int) (nm' : List UInt8) :
    (∃ F', HdP (set4 X g o (.int .i64 k') (.string (Pl.ba nm')) v1' v2') v (q1 ++ ⟨k', nm', c', g'⟩ :: q2) F') ∧ Kx w0 (set4 X g o (.int .i64 k') (.string (Pl.ba nm')) v1' v2') [P] := by
  have hbl : ∀ b, b < w.heap.size → b ∉ f1 ++ f2 → X.heap[b]? = w.heap[b]? := fun b hl hm => hk.block b hl (fun hm' => by rcases hA b hm' with r | r; exact hm r; omega)
  have hs : ∀ b, b ≠ g → (set4 X g o (.int .i64 k') (.string (Pl.ba nm')) v1' v2').heap[b]? = X.heap[b]? := fun b hb => by
    unfold set4
    rw [heap_setCell_other _ _ _ _ (by simpa using hb), heap_setCell_other _ _ _ _ (by simpa using hb), heap_setCell_other _ _ _ _ (by simpa using hb), heap_setCell_other _ _ _ _ (by simpa using hb)]
  refine ⟨h.re _ [.int .i64 k', .string (Pl.ba nm'), v1', v2'] ⟨k', nm', c', g'⟩ (f1' ++ f2') (Wrt.four hk.size hbl h.gl.1 h.gl.2.2 (by simp) h.x h.fz) ⟨v1', v2', f1', f2', rfl, rfl, H1.keep Qs'.lives (fun b hm => hs b (hb b (by simp [hm])).2.1), H2.keep Qg'.lives (fun b hm => hs b (hb b (by simp [hm])).2.1)⟩ hn (fun b hm => ⟨by simpa using (hb b hm).1, (hb b hm).2⟩), ?_⟩
  have hk2 : Kx w0 X [P] := h.k.trans hk (fun x hx => by rcases hA x hx with r | r; exact .inr (h.fl x r).2.1; exact .inr (Nat.le_trans h.k.size r))
  exact (((hk2.set _ _ _ (.inr h.gl.2.1)).set _ _ _ (.inr h.gl.2.1)).set _ _ _ (.inr h.gl.2.1)).set _ _ _ (.inr h.gl.2.1)
section
variable {P : Nat} {w0 w : World} {g o : Nat} {v : Value} {q1 : List Pl.Tv} {t : Pl.Tv} {q2 : List Pl.Tv} {v1 v2 : Value} {f1 f2 : List Nat}
theorem Sq.hc (h : Sq P w0 w g o v q1 t q2 v1 v2 f1 f2) : HdS w v1 t.code f1 := h.oc.hd Qs.to (fun b hb => (h.fl b (by simp [hb])).1)
theorem Sq.hg (h : Sq P w0 w g o v q1 t q2 v1 v2 f1 f2) : HdG w v2 t.gs f2 := h.og.hd Qg.to (fun b hb => (h.fl b (by simp [hb])).1)
theorem Sq.ng (h : Sq P w0 w g o v q1 t q2 v1 v2 f1 f2) : ∀ b ∈ f1 ++ f2, b ≠ g := fun b hb e => h.gl.2.2 (e ▸ hb)
/-- only kind and name are changed -/
theorem Sq.fin0 (h : Sq P w0 w g o v q1 t q2 v1 v2 f1 f2) (k' : Int) (nm' : List UInt8) : (∃ F', HdP (set4 w g o (.int .i64 k') (.string (Pl.ba nm')) v1 v2) v (q1 ++ { t with k := k', nm := nm' } :: q2) F') ∧ Kx w0 (set4 w g o (.int .i64 k') (.string (Pl.ba nm')) v1 v2) [P] :=
  h.fin (A := []) (Kx.refl _ _) (by simp) h.hc h.hg h.nd (fun b hb => ⟨(h.fl b hb).1, h.ng b hb, .inl hb⟩) k' nm'
/-- the code is cut -/
theorem Sq.fin2 (h : Sq P w0 w g o v q1 t q2 v1 v2 f1 f2) {d1 : List Pl.Sv} {s : Pl.Sv} {d2 : List Pl.Sv} (hc : t.code = d1 ++ s :: d2) {ao : Option Addr} {n cap : Nat} (hv : v1 = .slice ao n cap) : (∃ F', HdP (set4 w g o (.int .i64 t.k) (.string (Pl.ba t.nm)) (.slice ao d1.length cap) v2) v (q1 ++ { t with code := d1 } :: q2) F') ∧ Kx w0 (set4 w g o (.int .i64 t.k) (.string (Pl.ba t.nm)) (.slice ao d1.length cap) v2) [P] := by
  have h1 := h.hc
  rw [hc, hv] at h1
  obtain ⟨F', k1, k2, k3⟩ := h1.take Qs'.len
  have hn := List.nodup_append.1 h.nd
  exact h.fin (A := []) (Kx.refl _ _) (by simp) k1 h.hg (by rw [List.nodup_append]; exact ⟨k2, hn.2.1, fun a ha b hb e => hn.2.2 a (k3 a ha) b hb e⟩) (fun b hb => by
    have : b ∈ f1 ++ f2 := by rcases List.mem_append.1 hb with r | r; exact List.mem_append_left _ (k3 b r); exact List.mem_append_right _ r
    exact ⟨(h.fl b this).1, h.ng b this, .inl this⟩) t.k t.nm
theorem Hd.ne {α : Type} {z : Nat} {Q : World → List Value → α → List Nat → Prop} {w : World} {v : Value} {c : List α} {F : List Nat} (h : Hd z Q w v c F) (hc : c ≠ []) : F.Nodup ∧ ∀ b ∈ F, b < w.heap.size := by
  obtain ⟨ao, cap, rfl, h⟩ := h
  rcases h with h | ⟨g, xs, fp, rfl, rfl, h1, h2, h3, _⟩
  · exact absurd h hc
  · exact ⟨h2, h3⟩
/-- one step of the code, where it lies -/
theorem Sq.step (h : Sq P w0 w g o v q1 t q2 v1 v2 f1 f2) {d1 : List Pl.Sv} {s : Pl.Sv} {d2 : List Pl.Sv} (hc : t.code = d1 ++ s :: d2) : ∃ g1 cap1 vn fn, v1 = .slice (some ⟨g1, 0, none⟩) t.code.length cap1 ∧ Own 3 1 Qi w vn s.nums fn ∧
    (∀ j u, ([.int .i64 s.k, vn, .string (Pl.ba s.nm), .int .i64 s.fn.k, .int .i64 s.fn.a, .int .i64 s.fn.b, .string (Pl.ba s.fn.nm)] : List Value)[j]? = some u → w.cell? ⟨g1, d1.length * 7 + j, none⟩ = some u) ∧ (∀ j, w.frozen? ⟨g1, j, none⟩ = false) ∧ g1 ∈ f1 ∧ g1 ∉ fn ∧ (∀ b ∈ fn, b ∈ f1 ∧ b < w.heap.size) ∧ fn.Nodup ∧
    ∀ (X : World) (A : List Nat) (s' : Pl.Sv) (x' : List Value) (fn' : List Nat), Kx w X A → (∀ x ∈ A, x ∈ f1 ∨ w.heap.size ≤ x) → Wrt w X g1 (d1.length * 7) 7 fn x' → Qs' X x' s' fn' → fn'.Nodup → (∀ b ∈ fn', b < X.heap.size ∧ b ≠ g1 ∧ (b ∈ fn ∨ w.heap.size ≤ b)) →
      (∃ F', HdP (set4 X g o (.int .i64 t.k) (.string (Pl.ba t.nm)) v1 v2) v (q1 ++ { t with code := d1 ++ s' :: d2 } :: q2) F') ∧ Kx w0 (set4 X g o (.int .i64 t.k) (.string (Pl.ba t.nm)) v1 v2) [P] := by
  have hH : Hd 7 Qs w v1 (d1 ++ s :: d2) f1 := by rw [← hc]; exact h.oc.hd (fun _ _ _ _ h _ => h) (fun b hb => (h.fl b (by simp [hb])).1)
  obtain ⟨g1, cap1, x, fn, hv, hQ, hx, hfz, hgF, hgl, hgf, hfF, hfn, hre⟩ := hH.refocus (R := Qs') Qs.lives Qs.to (fun h => h.len.1) Qs'.len
  obtain ⟨vn, rfl, hN⟩ := hQ
  rw [← hc] at hv
  refine ⟨g1, cap1, vn, fn, hv, hN, hx, hfz, hgF, hgf, hfF, hfn, fun X A s' x' fn' hk hA hW hq hn hb => ?_⟩
  obtain ⟨F1, k1, k2⟩ := hre X x' s' fn' hW hq hn hb
  obtain ⟨n1, l1⟩ := k1.ne (by simp)
  have hnd := List.nodup_append.1 h.nd
  have hk2 : ∀ b ∈ f2, X.heap[b]? = w.heap[b]? := fun b hb => hk.block b (h.fl b (by simp [hb])).1 (fun hm => by
    rcases hA b hm with r | r
    · exact hnd.2.2 b r b hb rfl
    · have := (h.fl b (by simp [hb])).1; omega)
  refine h.fin hk (fun x hx => (hA x hx).imp (fun r => List.mem_append_left _ r) id) k1 (h.hg.keep Qg'.lives hk2) (by
    rw [List.nodup_append]
    refine ⟨n1, hnd.2.1, fun a ha b hb e => ?_⟩
    subst e
    rcases k2 a ha with r | r
    · exact hnd.2.2 a r a hb rfl
    · have := (h.fl a (by simp [hb])).1; omega) (fun b hb => ?_) t.k t.nm
  rcases List.mem_append.1 hb with r | r
  · refine ⟨l1 b r, fun e => ?_, (k2 b r).imp (fun r => List.mem_append_left _ r) id⟩
    subst e
    rcases k2 b r with r | r
    · exact h.gl.2.2 (List.mem_append_left _ r)
    · have := h.gl.1; omega
  · have : b ∈ f1 ++ f2 := List.mem_append_right _ r
    exact ⟨Nat.lt_of_lt_of_le (h.fl b this).1 hk.size, h.ng b this, .inl this⟩
end
theorem Wrt.from_ {w W w' : World} (k : Kx w W []) {g o z : Nat} {f : List Nat} {x' : List Value} (h : Wrt W w' g o z f x') (hg : g < w.heap.size) : Wrt w w' g o z f x' :=
  ⟨Nat.le_trans k.size h.sz, fun b hl h1 h2 => (h.bl b (Nat.lt_of_lt_of_le hl k.size) h1 h2).trans (k.block b hl (by simp)), fun j hj => (h.ce j hj).trans (World.cell?_of_block (a := ⟨g, j, none⟩) (k.block g hg (by simp))), h.fr, h.nw⟩
theorem Sq.kx0 {P : Nat} {w0 w W : World} {g o : Nat} {v : Value} {q1 : List Pl.Tv} {t : Pl.Tv} {q2 : List Pl.Tv} {v1 v2 : Value} {f1 f2 : List Nat} (h : Sq P w0 w g o v q1 t q2 v1 v2 f1 f2) (k : Kx w W []) : Sq P w0 W g o v q1 t q2 v1 v2 f1 f2 := by
  refine ⟨h.k.trans k (by simp), h.oc.keep Qs.lives (fun b hm => k.block b (h.fl b (by simp [hm])).1 (by simp)), h.og.keep Qg.lives (fun b hm => k.block b (h.fl b (by simp [hm])).1 (by simp)), fun j u hu => k.cell h.gl.1 (by simp) (h.x j u hu), fun j => k.froz h.gl.1 (by simp) (h.fz j), ⟨Nat.lt_of_lt_of_le h.gl.1 k.size, h.gl.2⟩, fun b hm => ⟨Nat.lt_of_lt_of_le (h.fl b hm).1 k.size, (h.fl b hm).2⟩, h.nd, fun w' x' a' f' h1 h2 h3 h4 => h.re w' x' a' f' (h1.from_ k h.gl.1) h2 h3 (fun b hm => ⟨(h4 b hm).1, (h4 b hm).2.1, (h4 b hm).2.2.imp id (fun r => Nat.le_trans k.size r)⟩)⟩
theorem Kx.wide {w w' : World} {A B : List Nat} (h : Kx w w' A) (hA : ∀ x ∈ A, x ∈ B) : Kx w w' B := ⟨h.os, h.tape, h.output, h.size, fun k hk hn => h.block k hk (fun hm => hn (hA k hm))⟩
theorem Own.nodup {α : Type} {et z : Nat} {Q : World → List Value → α → List Nat → Prop} {w : World} {v : Value} {c : List α} {F : List Nat} (h : Own et z Q w v c F) : F.Nodup := by obtain ⟨_, _, _, _, _, h⟩ := h; exact h
/-- a world that is longer by a block -/
theorem HdP.alloc {w : World} {v : Value} {c : List Pl.Tv} {F : List Nat} (h : HdP w v c F) (hc : c ≠ []) (ob : Obj) : HdP (w.alloc ob) v c F :=
  h.keep Qt'.lives (fun b hb => ((Below.refl w.heap.size w).alloc (Nat.le_refl _) ob).block b ((h.ne hc).2 b hb))
theorem Sp.up {w0 X : World} {P : Nat} {v : Value} {c : List Pl.Tv} (h : (∃ F', HdP X v c F') ∧ Kx w0 X [P]) (hc : c ≠ []) (ob : Obj) : (∃ F', HdP (X.alloc ob) v c F') ∧ Kx w0 (X.alloc ob) [P] := by
  obtain ⟨⟨F, h1⟩, h2⟩ := h
  exact ⟨⟨F, HdP.alloc h1 hc ob⟩, h2.alloc ob⟩
/-- one step is changed where it lies -/
theorem Sq.cell {P : Nat} {w0 w : World} {g o : Nat} {v : Value} {q1 : List Pl.Tv} {t : Pl.Tv} {q2 : List Pl.Tv} {v1 v2 : Value} {f1 f2 : List Nat} (h : Sq P w0 w g o v q1 t q2 v1 v2 f1 f2) {d1 : List Pl.Sv} {s : Pl.Sv} {d2 : List Pl.Sv} (hc : t.code = d1 ++ s :: d2) :
    ∃ g1 cap1 vn, v1 = .slice (some ⟨g1, 0, none⟩) t.code.length cap1 ∧ t.code.length ≤ cap1 ∧ g1 ≠ g ∧ g1 < w.heap.size ∧ (∀ j u, ([.int .i64 s.k, vn, .string (Pl.ba s.nm), .int .i64 s.fn.k, .int .i64 s.fn.a, .int .i64 s.fn.b, .string (Pl.ba s.fn.nm)] : List Value)[j]? = some u → w.cell? ⟨g1, d1.length * 7 + j, none⟩ = some u) ∧ (∀ j, w.frozen? ⟨g1, j, none⟩ = false) ∧
    (∀ (j0 : Nat) (u : Value) (s' : Pl.Sv), j0 < 7 → ([.int .i64 s.k, vn, .string (Pl.ba s.nm), .int .i64 s.fn.k, .int .i64 s.fn.a, .int .i64 s.fn.b, .string (Pl.ba s.fn.nm)] : List Value).set j0 u = [.int .i64 s'.k, vn, .string (Pl.ba s'.nm), .int .i64 s'.fn.k, .int .i64 s'.fn.a, .int .i64 s'.fn.b, .string (Pl.ba s'.fn.nm)] → s'.nums = s.nums →
      (∃ F', HdP (set4 (w.setCell ⟨g1, d1.length * 7 + j0, none⟩ u) g o (.int .i64 t.k) (.string (Pl.ba t.nm)) v1 v2) v (q1 ++ { t with code := d1 ++ s' :: d2 } :: q2) F') ∧ Kx w0 (set4 (w.setCell ⟨g1, d1.length * 7 + j0, none⟩ u) g o (.int .i64 t.k) (.string (Pl.ba t.nm)) v1 v2) [P]) ∧
    ∃ fn, Own 3 1 Qi w vn s.nums fn ∧ (∀ b ∈ fn, b < w.heap.size) ∧ g ∉ fn ∧ g1 ∉ fn ∧ ∀ (W w9 : World) (v9 : Value) (F9 : List Nat) (nums' : List Int), Kx w W [] → Own 3 1 Qi w9 v9 nums' F9 → Inb 0 w9 F9 → W.grownBy w9 vn.ownBlock → (∀ x ∈ F9, x ∈ fn ∨ x ∈ ([] : List Nat) ∨ x = W.heap.size) →
      (∃ F', HdP (set4 (w9.setCell ⟨g1, d1.length * 7 + 1, none⟩ v9) g o (.int .i64 t.k) (.string (Pl.ba t.nm)) v1 v2) v (q1 ++ { t with code := d1 ++ { s with nums := nums' } :: d2 } :: q2) F') ∧ Kx w0 (set4 (w9.setCell ⟨g1, d1.length * 7 + 1, none⟩ v9) g o (.int .i64 t.k) (.string (Pl.ba t.nm)) v1 v2) [P] := by
  obtain ⟨g1, cap1, vn, fn, hv, hN, hx, hfz, hg1, hgf, hfF, hfn, hre⟩ := h.step hc
  have hcap : t.code.length ≤ cap1 := by
    obtain ⟨xs, fp, _, ⟨_, ho⟩, _⟩ := h.oc
    rcases ho with ⟨e, _⟩ | ⟨_, _, _, e, _, _, hle, _⟩
    · rw [hv] at e; cases e
    · rw [hv] at e; injection e with _ _ e; omega
  have hl1 := (h.fl g1 (by simp [hg1])).1
  refine ⟨g1, cap1, vn, hv, hcap, h.ng g1 (by simp [hg1]), hl1, hx, hfz, fun j0 u s' hj hs hn => ?_, fn, hN, fun b hm => (hfF b hm).2, fun hm => h.ng g (by simp [(hfF g hm).1]) rfl, hgf, fun W w9 v9 F9 nums' kW ho hi hg hf => ?_⟩
  · have hk : Kx w (w.setCell ⟨g1, d1.length * 7 + j0, none⟩ u) [g1] := (Kx.refl w [g1]).set _ _ _ (.inl (by simp))
    have hW := Wrt.one (w0 := w) (u := u) (j0 := j0) (o := d1.length * 7) (z := 7) (f := fn) (Nat.le_refl _) (fun _ _ _ => rfl) hl1 hgf (by simp; omega) rfl hx hfz
    rw [hs] at hW
    refine hre _ [g1] s' _ fn hk (by simp [hg1]) hW ⟨vn, rfl, ?_⟩ hfn (fun b hm => ⟨by simp; exact (hfF b hm).2, fun e => hgf (e ▸ hm), .inl hm⟩)
    rw [hn]
    exact (hN.hd (fun _ _ _ _ h _ => h) (fun b hm => (hfF b hm).2)).keep Qi.lives (fun b hm => heap_setCell_other _ _ _ _ (fun e => hgf (by simp at e; exact e ▸ hm)))
  · have hob : ∀ b, vn.ownBlock = some b → b ∈ fn := fun b hb => (hN.lt b hb).1
    have hsz : w.heap.size ≤ w9.heap.size := Nat.le_trans kW.size hg.size
    have hbl : ∀ b, b < w.heap.size → b ∉ fn → w9.heap[b]? = w.heap[b]? := fun b hl hm => (hg.block b (Nat.lt_of_lt_of_le hl kW.size) (fun e => hm (hob b e.symm))).trans (kW.block b hl (by simp))
    have hW := Wrt.one (w0 := w9) (u := v9) (j0 := 1) (o := d1.length * 7) (z := 7) (f := fn) hsz hbl hl1 hgf (by simp) rfl hx hfz
    have hg9 : g1 ∉ F9 := fun hm => by
      rcases hf g1 hm with r | r | r
      · exact hgf r
      · exact absurd r (by simp)
      · have := kW.size; omega
    have k9 : Kx w w9 fn := (kW.wide (B := fn) (by simp)).trans (A' := vn.ownBlock.toList) (Kx.grown hg (by simp)) (fun x hx => .inl (hob x (by simpa using hx)))
    have hk : Kx w (w9.setCell ⟨g1, d1.length * 7 + 1, none⟩ v9) (g1 :: fn) := (k9.wide (B := g1 :: fn) (fun x hx => List.mem_cons_of_mem _ hx)).set _ _ _ (.inl (by simp))
    refine hre _ (g1 :: fn) { s with nums := nums' } _ F9 hk (fun x hx => ?_) hW ⟨v9, rfl, ?_⟩ ho.nodup (fun b hm => ⟨by simp; exact (hi b hm).2, fun e => hg9 (e ▸ hm), ?_⟩)
    · rcases List.mem_cons.1 hx with r | r
      · exact .inl (r ▸ hg1)
      · exact .inl (hfF x r).1
    · exact (ho.hd (fun _ _ _ _ h _ => h) (fun b hm => (hi b hm).2)).keep Qi.lives (fun b hm => heap_setCell_other _ _ _ _ (fun e => hg9 (by simp at e; exact e ▸ hm)))
    · rcases hf b hm with r | r | r
      · exact .inl r
      · exact absurd r (by simp)
      · exact .inr (by have := kW.size; omega)
/-- a guard is put behind the others -/
theorem Sq.gapp {P : Nat} {w0 w : World} {g o : Nat} {v : Value} {q1 : List Pl.Tv} {t : Pl.Tv} {q2 : List Pl.Tv} {v1 v2 : Value} {f1 f2 : List Nat} (h : Sq P w0 w g o v q1 t q2 v1 v2 f1 f2) {W w9 : World} {v9 : Value} {F9 : List Nat} {gs' : List Pl.Gv} {s : Nat} (hs : s = w.heap.size) (hsW : s < W.heap.size) (kW : Kx w W []) (ho : Own 48 2 Qg w9 v9 gs' F9) (hi : Inb 0 w9 F9) (hg : W.grownBy w9 v2.ownBlock) (hf : ∀ x ∈ F9, x ∈ f2 ∨ x ∈ ([] : List Nat) ∨ x = W.heap.size) :
    (∃ F', HdP (set4 (w9.setCell ⟨s, 3, none⟩ v9) g o (.int .i64 t.k) (.string (Pl.ba t.nm)) v1 v9) v (q1 ++ { t with gs := gs' } :: q2) F') ∧ Kx w0 (set4 (w9.setCell ⟨s, 3, none⟩ v9) g o (.int .i64 t.k) (.string (Pl.ba t.nm)) v1 v9) [P] := by
  subst hs
  have hob : ∀ b, v2.ownBlock = some b → b ∈ f2 := fun b hb => (h.og.lt b hb).1
  have hnd := List.nodup_append.1 h.nd
  have hz := kW.size
  have k9 : Kx w w9 f2 := (kW.wide (B := f2) (by simp)).trans (A' := v2.ownBlock.toList) (Kx.grown hg (by simp)) (fun x hx => .inl (hob x (by simpa using hx)))
  have hk : Kx w (w9.setCell ⟨w.heap.size, 3, none⟩ v9) f2 := k9.set _ _ _ (.inr (Nat.le_refl _))
  have hs9 : w.heap.size ∉ F9 := fun hm => by
    rcases hf _ hm with r | r | r
    · have := (h.fl _ (List.mem_append_right _ r)).1; omega
    · exact absurd r (by simp)
    · omega
  refine h.fin hk (fun x hx => .inl (List.mem_append_right _ hx)) (f1' := f1) (f2' := F9) (h.hc.keep Qs'.lives (fun b hm => hk.block b (h.fl b (by simp [hm])).1 (fun hm' => hnd.2.2 b hm b hm' rfl))) ((ho.hd Qg.to (fun b hm => (hi b hm).2)).keep Qg'.lives (fun b hm => heap_setCell_other _ _ _ _ (fun e => hs9 (by simp at e; exact e ▸ hm)))) ?_ (fun b hb => ?_) t.k t.nm
  · rw [List.nodup_append]
    refine ⟨hnd.1, ho.nodup, fun a ha b hb e => ?_⟩
    subst e
    rcases hf a hb with r | r | r
    · exact hnd.2.2 a ha a r rfl
    · exact absurd r (by simp)
    · have := (h.fl a (by simp [ha])).1; omega
  · rcases List.mem_append.1 hb with r | r
    · exact ⟨Nat.lt_of_lt_of_le (h.fl b (by simp [r])).1 hk.size, h.ng b (by simp [r]), .inl (by simp [r])⟩
    · refine ⟨by simp; exact (hi b r).2, fun e => ?_, ?_⟩
      · subst e
        rcases hf b r with r | r | r
        · exact h.gl.2.2 (List.mem_append_right _ r)
        · exact absurd r (by simp)
        · have := h.gl.1; omega
      · rcases hf b r with r | r | r
        · exact .inl (List.mem_append_right _ r)
        · exact absurd r (by simp)
        · exact .inr (by omega)
end Go.Proofs.YthhfpcdbgndioaaGreatDoor
