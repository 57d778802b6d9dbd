import Derived.Test.YtljkolffjjhgeaaGreatDoorToi
namespace Go.Proofs.YtljkolffjjhgeaaGreatDoor
open Go.RowKit
set_option linter.unusedVariables false
set_option maxRecDepth 100000
theorem far {w : World} {p : Addr} {b o : Nat} {v : Value} (h : p.block ≠ b) : (w.setCell p v).cell? ⟨b, o, none⟩ = w.cell? ⟨b, o, none⟩ := World.cell?_setCell_other _ _ _ _ (fun e => h (by rw [e]))
theorem bcell {B : Nat} {W w1 : World} (hb : Below B W w1) {b j : Nat} {v : Value} (h : b < B) (hc : W.cell? ⟨b, j, none⟩ = some v) : w1.cell? ⟨b, j, none⟩ = some v := (hb.cell (p := ⟨b, j, none⟩) h).trans hc
theorem bfroz {B : Nat} {W w1 : World} (hb : Below B W w1) {b j : Nat} (h : b < B) (hc : W.frozen? ⟨b, j, none⟩ = false) : w1.frozen? ⟨b, j, none⟩ = false := (hb.frozen (p := ⟨b, j, none⟩) h).trans hc
set_option maxHeartbeats 4000000 in
/-- laws.toStep -/
theorem toStep_any (s : Pl.Sv) (ao : Option Addr) (cap : Nat) (w : World) (hn : s.nums.length ≤ 1048576) (hR : RdI w.heap.size w ao s.nums) :
    Calls Tryz.prog 40 #[.agg #[.int .i64 s.k, .slice ao s.nums.length cap, .string (Pl.ba s.nm), .int .i64 s.fn.k, .int .i64 s.fn.a, .int .i64 s.fn.b, .string (Pl.ba s.fn.nm)]] w fun e w' => ∃ an cn, e = .returned (.agg #[.int .i64 s.k, .slice an s.nums.length cn, .string (Pl.ba s.nm), .int .i64 s.fn.k, .int .i64 s.fn.a, .int .i64 s.fn.b, .string (Pl.ba s.fn.nm)]) ∧ XI (Fr w.heap.size w') w' an s.nums ∧ Below w.heap.size w w' := by
  have HB := hideP (below3 w)
  have K : Hid (∀ o1 o2 o3, Calls Tryz.prog 56 #[.slice ao s.nums.length cap] (((w.alloc o1).alloc o2).alloc o3) fun e w' => e = .returned (.slice (some ⟨w.heap.size + 1 + 1 + 1, 0, none⟩) s.nums.length s.nums.length) ∧ XI (Fr (w.heap.size + 1 + 1 + 1) w') w' (some ⟨w.heap.size + 1 + 1 + 1, 0, none⟩) s.nums ∧ Below (w.heap.size + 1 + 1 + 1) (((w.alloc o1).alloc o2).alloc o3) w' ∧ w.heap.size + 1 + 1 + 1 < w'.heap.size) := fun o1 o2 o3 => by
    have := toIntS_any s.nums ao cap (((w.alloc o1).alloc o2).alloc o3) hn ((hR.keep (HB.out _ _ _)).up (HB.out _ _ _).size)
    simpa using this
  have X : Hid (∀ b w1 w2, b ≤ w.heap.size + 1 + 1 + 1 → XI (Fr (w.heap.size + 1 + 1 + 1) w1) w1 (some ⟨w.heap.size + 1 + 1 + 1, 0, none⟩) s.nums → Mv (Fr (w.heap.size + 1 + 1 + 1) w1) (Fr b w2) w1 w2 → XI (Fr b w2) w2 (some ⟨w.heap.size + 1 + 1 + 1, 0, none⟩) s.nums) := fun b w1 w2 hb h m => h.mv m
  clear hR
  generalize s.nums.length = sn at *
  generalize Pl.ba s.nm = nm at *
  generalize Pl.ba s.fn.nm = fnm at *
  generalize s.fn.k = fk at *
  generalize s.fn.a = fa at *
  generalize s.fn.b = fb at *
  generalize s.k = kk at *
  go_enter Tryz.func40, Tryz.ntmps40
  go_wp2_with fail
  refine (K.out _ _ _).mono ?_
  rintro e w1 ⟨rfl, hx, hb1, hlt1⟩
  have a2 := bcell hb1 (b := w.heap.size) (j := 2) (by omega) (by simp [go_sem]; rfl)
  have a3 := bcell hb1 (b := w.heap.size) (j := 3) (by omega) (by simp [go_sem]; rfl)
  have a4 := bcell hb1 (b := w.heap.size) (j := 4) (by omega) (by simp [go_sem]; rfl)
  have a5 := bcell hb1 (b := w.heap.size) (j := 5) (by omega) (by simp [go_sem]; rfl)
  have a6 := bcell hb1 (b := w.heap.size) (j := 6) (by omega) (by simp [go_sem]; rfl)
  have r0 := bcell hb1 (b := w.heap.size + 1) (j := 0) (by omega) (by simp [go_sem]; rfl)
  have r1 := bcell hb1 (b := w.heap.size + 1) (j := 1) (by omega) (by simp [go_sem]; rfl)
  have r2 := bcell hb1 (b := w.heap.size + 1) (j := 2) (by omega) (by simp [go_sem]; rfl)
  have r3 := bcell hb1 (b := w.heap.size + 1) (j := 3) (by omega) (by simp [go_sem]; rfl)
  have r4 := bcell hb1 (b := w.heap.size + 1) (j := 4) (by omega) (by simp [go_sem]; rfl)
  have r5 := bcell hb1 (b := w.heap.size + 1) (j := 5) (by omega) (by simp [go_sem]; rfl)
  have r6 := bcell hb1 (b := w.heap.size + 1) (j := 6) (by omega) (by simp [go_sem]; rfl)
  have o0 := bcell hb1 (b := w.heap.size + 1 + 1) (j := 0) (by omega) (by simp [go_sem]; rfl)
  have o1 := bcell hb1 (b := w.heap.size + 1 + 1) (j := 1) (by omega) (by simp [go_sem]; rfl)
  have o2 := bcell hb1 (b := w.heap.size + 1 + 1) (j := 2) (by omega) (by simp [go_sem]; rfl)
  have o3 := bcell hb1 (b := w.heap.size + 1 + 1) (j := 3) (by omega) (by simp [go_sem]; rfl)
  have o4 := bcell hb1 (b := w.heap.size + 1 + 1) (j := 4) (by omega) (by simp [go_sem]; rfl)
  have o5 := bcell hb1 (b := w.heap.size + 1 + 1) (j := 5) (by omega) (by simp [go_sem]; rfl)
  have o6 := bcell hb1 (b := w.heap.size + 1 + 1) (j := 6) (by omega) (by simp [go_sem]; rfl)
  have fr : ∀ j, w1.frozen? ⟨w.heap.size + 1, j, none⟩ = false := fun j => bfroz hb1 (by omega) (by simp [go_sem])
  have fo : ∀ j, w1.frozen? ⟨w.heap.size + 1 + 1, j, none⟩ = false := fun j => bfroz hb1 (by omega) (by simp [go_sem])
  have B1 := hideP ((HB.out _ _ _).trans (hb1.mono (by omega)))
  have HX := hideP hx
  clear hb1 hx HB
  go_wp2_with fail
  refine (toFn_any _ _ _ _ _).mono ?_
  rintro e w2 ⟨rfl, hb2⟩
  have sz2 : w1.heap.size ≤ w2.heap.size := by have := hb2.size; simpa using this
  have r'0 := bcell hb2 (b := w.heap.size + 1) (j := 0) (by simp; omega) (by simp [go_sem, r0] <;> rfl)
  have r'1 := bcell hb2 (b := w.heap.size + 1) (j := 1) (by simp; omega) (by simp [go_sem, r1] <;> rfl)
  have r'2 := bcell hb2 (b := w.heap.size + 1) (j := 2) (by simp; omega) (by simp [go_sem, r2] <;> rfl)
  have r'3 := bcell hb2 (b := w.heap.size + 1) (j := 3) (by simp; omega) (by simp [go_sem, r3] <;> rfl)
  have r'4 := bcell hb2 (b := w.heap.size + 1) (j := 4) (by simp; omega) (by simp [go_sem, r4] <;> rfl)
  have r'5 := bcell hb2 (b := w.heap.size + 1) (j := 5) (by simp; omega) (by simp [go_sem, r5] <;> rfl)
  have r'6 := bcell hb2 (b := w.heap.size + 1) (j := 6) (by simp; omega) (by simp [go_sem, r6] <;> rfl)
  have o'0 := bcell hb2 (b := w.heap.size + 1 + 1) (j := 0) (by simp; omega) (by simp [go_sem, o0] <;> rfl)
  have o'1 := bcell hb2 (b := w.heap.size + 1 + 1) (j := 1) (by simp; omega) (by simp [go_sem, o1] <;> rfl)
  have o'2 := bcell hb2 (b := w.heap.size + 1 + 1) (j := 2) (by simp; omega) (by simp [go_sem, o2] <;> rfl)
  have o'3 := bcell hb2 (b := w.heap.size + 1 + 1) (j := 3) (by simp; omega) (by simp [go_sem, o3] <;> rfl)
  have o'4 := bcell hb2 (b := w.heap.size + 1 + 1) (j := 4) (by simp; omega) (by simp [go_sem, o4] <;> rfl)
  have o'5 := bcell hb2 (b := w.heap.size + 1 + 1) (j := 5) (by simp; omega) (by simp [go_sem, o5] <;> rfl)
  have o'6 := bcell hb2 (b := w.heap.size + 1 + 1) (j := 6) (by simp; omega) (by simp [go_sem, o6] <;> rfl)
  have fr' : ∀ j, w2.frozen? ⟨w.heap.size + 1, j, none⟩ = false := fun j => bfroz hb2 (by simp; omega) (by simp [go_sem, fr])
  have fo' : ∀ j, w2.frozen? ⟨w.heap.size + 1 + 1, j, none⟩ = false := fun j => bfroz hb2 (by simp; omega) (by simp [go_sem, fo])
  have B2 : Hid (Below w.heap.size w w2) := ((B1.out.setCell (by simp; omega) _).setCell (by simp; omega) _).trans (hb2.mono (by simp; omega))
  have M2 : Hid (∀ b, w.heap.size + 1 + 1 + 1 ≤ b → b < w1.heap.size → ∀ o, w2.cell? ⟨b, o, none⟩ = w1.cell? ⟨b, o, none⟩) := fun b h1 h2 o => by
    rw [hb2.cell (p := ⟨b, o, none⟩) (by simpa using h2), far (by simp only [ne_eq]; omega), far (by simp only [ne_eq]; omega)]
  clear hb2 B1 a2 a3 a4 a5 a6 r0 r1 r2 r3 r4 r5 r6 o0 o1 o2 o3 o4 o5 o6 fr fo K
  go_wp2_with fail
  have E : Hid (∀ (b1 o1 b2 o2 : Nat) (l1 l2 : List Value) (w3 : World), w3 = (w2.setCells b1 o1 l1).setCells b2 o2 l2 → w.heap.size ≤ b1 → w.heap.size ≤ b2 → b1 < w.heap.size + 1 + 1 + 1 → b2 < w.heap.size + 1 + 1 + 1 → XI (Fr w.heap.size w3) w3 (some ⟨w.heap.size + 1 + 1 + 1, 0, none⟩) s.nums ∧ Below w.heap.size w w3) := fun b1 o1 b2 o2 l1 l2 w3 e h1 h2 h3 h4 => by
    subst e
    refine ⟨X.out _ _ _ (by omega) HX.out (fun b hb => ⟨⟨by have := hb.1; omega, by have := hb.2; rw [setCells_size, setCells_size]; omega⟩, fun o => ?_⟩), setCells_below _ h2 _ _ _ (setCells_below _ h1 _ _ _ B2.out)⟩
    have g1 := hb.1
    rw [← M2.out b g1 hb.2 o, World.cell?_setCells_out _ _ _ _ _ (fun e _ => by have : b = b2 := e; omega), World.cell?_setCells_out _ _ _ _ _ (fun e _ => by have : b = b1 := e; omega)]
  refine bodyPost_ret (v := .agg #[.int .i64 kk, .slice (some ⟨w.heap.size + 1 + 1 + 1, 0, none⟩) sn sn, .string nm, .int .i64 fk, .int .i64 fa, .int .i64 fb, .string fnm]) (by simp [results, Tryz.results40, go_sem, r'0, r'1, r'2, r'3, r'4, r'5, r'6]) rfl ⟨_, _, rfl, E.out (w.heap.size + 1 + 1) 3 (w.heap.size + 1) 0 [.int .i64 fk, .int .i64 fa, .int .i64 fb, .string fnm] [.int .i64 kk, .slice (some ⟨w.heap.size + 1 + 1 + 1, 0, none⟩) sn sn, .string nm, .int .i64 fk, .int .i64 fa, .int .i64 fb, .string fnm] _ rfl (by omega) (by omega) (by omega) (by omega)⟩
theorem Tryz.inf80 : (Tryz.prog.info? 80).map (fun i => (i.zero, i.size, i.bytes)) = some (some (.agg #[.int .i64 0, .slice none 0 0, .string ByteArray.empty, .int .i64 0, .int .i64 0, .int .i64 0, .string ByteArray.empty]), 7, 88) := by kernel_rfl
set_option maxHeartbeats 4000000 in
/-- laws.toStepS -/
theorem toStepS_any (c : List Pl.Sv) (ao : Option Addr) (cap : Nat) (w : World) (hl : c.length ≤ 1048576) (hk : ∀ s ∈ c, s.nums.length ≤ 1048576) (hR : RdS w.heap.size w ao c) :
    Calls Tryz.prog 21 #[.slice ao c.length cap] w fun e w' => e = .returned (.slice (some ⟨w.heap.size, 0, none⟩) c.length c.length) ∧ XL QS 7 (Fr w.heap.size w') w' (some ⟨w.heap.size, 0, none⟩) c ∧ Below w.heap.size w w' ∧ w.heap.size < w'.heap.size := by
  obtain ⟨i0, hi, hz0, hz1, hz2⟩ := info_parts Tryz.inf80
  have HG : Hid (∀ k, k < c.length → ∃ s b off, c[k]? = some s ∧ s ∈ c ∧ ao = some ⟨b, off, none⟩ ∧ b < w.heap.size ∧ ∃ an cn, ∀ w', Below w.heap.size w w' → Stp w.heap.size w' b (off + k * 7) s an cn) := fun k hk => by
    rcases hR with rfl | ⟨b, off, hb, rfl, hc⟩
    · cases hk
    · obtain ⟨an, cn, h⟩ := hc k c[k] (List.getElem?_eq_getElem hk)
      exact ⟨c[k], b, off, List.getElem?_eq_getElem hk, List.getElem_mem hk, rfl, hb, an, cn, fun w' hw => h.keep hb hw⟩
  have HK := hideP hk
  clear hR hk
  generalize hn : c.length = n at *
  have Hn : Hid (c.length = n) := hn
  clear hn
  go_enter Tryz.func21, Tryz.ntmps21
  go_wp2_with (at_make; refine wpList_make_full _ rfl _ _ 37 rfl w.heap.size 80 i0 (.agg #[.int .i64 0, .slice none 0 0, .string ByteArray.empty, .int .i64 0, .int .i64 0, .int .i64 0, .string ByteArray.empty]) 7 Tryz.underlying37 hi hz0 hz1 _ _ _ _ n rfl rfl rfl rfl ?b2 ?b3 ?b4 ?_)
  case b2 => rw [hz2]; omega
  case b3 => unfold maxLen; omega
  case b4 => exact Nat.le_refl _
  intro w1 hown hgrow
  have I0 : Hid (Inv QS 7 w c n 0 w1) := Inv.made hown (by simp [size_madeCells]) ((Below.refl _ _).grown hgrow (Nat.le_refl _) (by intro k h; cases h))
  clear hgrow hi hz0 hz1 hz2 hown
  go_wp2
  go_loopw [4] (fun i wr => ∃ k : Nat, k ≤ n ∧ i = .int .i64 k ∧ Hid (Inv QS 7 w c n k wr)) (fun i _ => n - (intOf i).toNat)
  case atStart => exact ⟨0, Nat.zero_le _, rfl, I0⟩
  case round =>
    clear I0
    obtain ⟨k, hk, rfl, hI⟩ := hrel
    by_cases hlt : k < n
    · obtain ⟨s, b, off, hs, hm, rfl, hb, an, cn, hst⟩ := HG.out k hlt
      obtain ⟨c0, c1, c2, c3, c4, c5, c6, crd⟩ := hst _ hI.out.bel
      have hle := hI.out.bel.size
      have K := hideP (toStep_any s an cn wr (HK.out s hm) (crd.up hle))
      have R : Hid (∀ w2 an2 cn2, Inv QS 7 w c n k w2 → XI (Fr (w.heap.size + 1) w2) w2 an2 s.nums → Inv QS 7 w c n (k + 1) (w2.setCells w.heap.size (k * 7) [.int .i64 s.k, .slice an2 s.nums.length cn2, .string (Pl.ba s.nm), .int .i64 s.fn.k, .int .i64 s.fn.a, .int .i64 s.fn.b, .string (Pl.ba s.fn.nm)])) := fun w2 an2 cn2 I hx => I.put mS _ rfl hlt hs (fun w3 hc hm => ⟨an2, cn2, hc 0 (by simp), hc 1 (by simp), hc 2 (by simp), hc 3 (by simp), hc 4 (by simp), hc 5 (by simp), hc 6 (by simp), hx.mv hm⟩)
      clear crd hst hs hm HG HK
      generalize s.nums.length = sn at *
      generalize Pl.ba s.nm = nm at *
      generalize Pl.ba s.fn.nm = fnm at *
      generalize s.fn.k = fk at *
      generalize s.fn.a = fa at *
      generalize s.fn.b = fb at *
      generalize s.k = kk at *
      go_wp2_with fail
      refine K.out.mono ?_
      rintro e w2 ⟨an2, cn2, rfl, hx, hb2⟩
      have I2 := hideP (hI.out.keep mS hb2)
      have hlt2 := hI.out.lt
      have f0 := I2.out.fz (k * 7)
      obtain ⟨v0, g0⟩ := I2.out.cl (k * 7) (by omega)
      have f1 := I2.out.fz (k * 7 + 1)
      obtain ⟨v1, g1⟩ := I2.out.cl (k * 7 + 1) (by omega)
      have f2 := I2.out.fz (k * 7 + 2)
      obtain ⟨v2, g2⟩ := I2.out.cl (k * 7 + 2) (by omega)
      have f3 := I2.out.fz (k * 7 + 3)
      obtain ⟨v3, g3⟩ := I2.out.cl (k * 7 + 3) (by omega)
      have f4 := I2.out.fz (k * 7 + 4)
      obtain ⟨v4, g4⟩ := I2.out.cl (k * 7 + 4) (by omega)
      have f5 := I2.out.fz (k * 7 + 5)
      obtain ⟨v5, g5⟩ := I2.out.cl (k * 7 + 5) (by omega)
      have f6 := I2.out.fz (k * 7 + 6)
      obtain ⟨v6, g6⟩ := I2.out.cl (k * 7 + 6) (by omega)
      have R2 := hideP (R.out w2 an2 cn2 I2.out (hx.mv fun b h => ⟨⟨by omega, h.2⟩, fun _ => rfl⟩))
      clear R K hx hI I2 hb2 hle
      go_wp2_with fail
      go_roundw
      case rel => exact ⟨k + 1, by omega, by go_num, R2⟩
      case measure => simp [intOf]; omega
    · have R : Hid (XL QS 7 (Fr w.heap.size wr) wr (some ⟨w.heap.size, 0, none⟩) c ∧ Below w.heap.size w wr ∧ w.heap.size < wr.heap.size) := ⟨hI.out.done mS (by rw [Hn.out]; omega), hI.out.bel, hI.out.lt⟩
      clear hI HG HK
      go_wp2
      go_ret
      exact ⟨rfl, R.out⟩
end Go.Proofs.YtljkolffjjhgeaaGreatDoor
