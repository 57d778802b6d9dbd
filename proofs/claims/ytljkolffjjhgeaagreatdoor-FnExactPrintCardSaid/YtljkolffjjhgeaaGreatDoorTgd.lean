import Derived.Test.YtljkolffjjhgeaaGreatDoorTos
namespace Go.Proofs.YtljkolffjjhgeaaGreatDoor
namespace Pl
/-- lengths that fit -/
def Sz (c : List Sv) : Prop := c.length ≤ 1048576 ∧ ∀ s ∈ c, s.nums.length ≤ 1048576
def SzG (c : List Gv) : Prop := c.length ≤ 1048576 ∧ ∀ s ∈ c, Sz s.test ∧ Sz s.thn
def SzT (c : List Tv) : Prop := c.length ≤ 1048576 ∧ ∀ s ∈ c, Sz s.code ∧ SzG s.gs
end Pl
open Go.RowKit
set_option linter.unusedVariables false
set_option maxRecDepth 100000
set_option maxHeartbeats 4000000 in
/-- laws.toGuard -/
theorem toGuard_any (s : Pl.Gv) (a1 : Option Addr) (c1 : Nat) (a2 : Option Addr) (c2 : Nat) (w : World) (hk1 : Pl.Sz s.test) (hk2 : Pl.Sz s.thn) (r1 : RdS w.heap.size w a1 s.test) (r2 : RdS w.heap.size w a2 s.thn) :
    Calls Tryz.prog 41 #[.agg #[.slice a1 s.test.length c1, .slice a2 s.thn.length c2]] w fun e w' => ∃ b1 d1 b2 d2, e = .returned (.agg #[.slice b1 s.test.length d1, .slice b2 s.thn.length d2]) ∧ XL QS 7 (Fr w.heap.size w') w' b1 s.test ∧ XL QS 7 (Fr w.heap.size w') w' b2 s.thn ∧ Below w.heap.size w w' := by
  have HB := hideP (below3 w)
  have K1 : Hid (∀ o1 o2 o3, Calls Tryz.prog 21 #[.slice a1 s.test.length c1] (((w.alloc o1).alloc o2).alloc o3) fun e w' => e = .returned (.slice (some ⟨w.heap.size + 1 + 1 + 1, 0, none⟩) s.test.length s.test.length) ∧ XL QS 7 (Fr (w.heap.size + 1 + 1 + 1) w') w' (some ⟨w.heap.size + 1 + 1 + 1, 0, none⟩) s.test ∧ Below (w.heap.size + 1 + 1 + 1) (((w.alloc o1).alloc o2).alloc o3) w' ∧ w.heap.size + 1 + 1 + 1 < w'.heap.size) := fun o1 o2 o3 => by
    have := toStepS_any s.test a1 c1 (((w.alloc o1).alloc o2).alloc o3) hk1.1 hk1.2 ((r1.keep (HB.out _ _ _)).up (HB.out _ _ _).size)
    simpa using this
  have K2 : Hid (∀ w1 o v, Below w.heap.size w w1 → Calls Tryz.prog 21 #[.slice a2 s.thn.length c2] (w1.setCell ⟨w.heap.size + 1 + 1, o, none⟩ v) fun e w' => e = .returned (.slice (some ⟨w1.heap.size, 0, none⟩) s.thn.length s.thn.length) ∧ XL QS 7 (Fr w1.heap.size w') w' (some ⟨w1.heap.size, 0, none⟩) s.thn ∧ Below w1.heap.size (w1.setCell ⟨w.heap.size + 1 + 1, o, none⟩ v) w' ∧ w1.heap.size < w'.heap.size) := fun w1 o v hb => by
    have hb' : Below w.heap.size w (w1.setCell ⟨w.heap.size + 1 + 1, o, none⟩ v) := hb.setCell (by simp only; omega) _
    have := toStepS_any s.thn a2 c2 (w1.setCell ⟨w.heap.size + 1 + 1, o, none⟩ v) hk2.1 hk2.2 ((r2.keep hb').up hb'.size)
    simpa using this
  have X1 : Hid (∀ w1 w2, XL QS 7 (Fr (w.heap.size + 1 + 1 + 1) w1) w1 (some ⟨w.heap.size + 1 + 1 + 1, 0, none⟩) s.test → Mv (Fr (w.heap.size + 1 + 1 + 1) w1) (Fr w.heap.size w2) w1 w2 → XL QS 7 (Fr w.heap.size w2) w2 (some ⟨w.heap.size + 1 + 1 + 1, 0, none⟩) s.test) := fun w1 w2 h m => h.mv mS m
  have X2 : Hid (∀ n w1 w2, XL QS 7 (Fr n w1) w1 (some ⟨n, 0, none⟩) s.thn → Mv (Fr n w1) (Fr w.heap.size w2) w1 w2 → XL QS 7 (Fr w.heap.size w2) w2 (some ⟨n, 0, none⟩) s.thn) := fun n w1 w2 h m => h.mv mS m
  clear r1 r2
  generalize s.test.length = n1 at *
  generalize s.thn.length = n2 at *
  go_enter Tryz.func41, Tryz.ntmps41
  go_wp2_with fail
  refine (K1.out _ _ _).mono ?_
  rintro e w1 ⟨rfl, hx, hb1, hlt1⟩
  have a1 := bcell hb1 (b := w.heap.size) (j := 1) (by omega) (by simp [go_sem]; rfl)
  have r0 := bcell hb1 (b := w.heap.size + 1) (j := 0) (by omega) (by simp [go_sem]; rfl)
  have r1 := bcell hb1 (b := w.heap.size + 1) (j := 1) (by omega) (by simp [go_sem]; rfl)
  have o0 := bcell hb1 (b := w.heap.size + 1 + 1) (j := 0) (by omega) (by simp [go_sem]; rfl)
  have o1 := bcell hb1 (b := w.heap.size + 1 + 1) (j := 1) (by omega) (by simp [go_sem]; rfl)
  have fr : ∀ j, w1.frozen? ⟨w.heap.size + 1, j, none⟩ = false := fun j => bfroz hb1 (by omega) (by simp [go_sem])
  have fo : ∀ j, w1.frozen? ⟨w.heap.size + 1 + 1, j, none⟩ = false := fun j => bfroz hb1 (by omega) (by simp [go_sem])
  have B1 := hideP ((HB.out _ _ _).trans (hb1.mono (by omega)))
  have HX := hideP hx
  clear hb1 hx HB
  go_wp2_with fail
  refine (K2.out _ _ _ B1.out).mono ?_
  rintro e w2 ⟨rfl, hx2, hb2, hlt2⟩
  have r'0 := bcell hb2 (b := w.heap.size + 1) (j := 0) (by omega) (by simp [go_sem, r0] <;> rfl)
  have r'1 := bcell hb2 (b := w.heap.size + 1) (j := 1) (by omega) (by simp [go_sem, r1] <;> rfl)
  have o'0 := bcell hb2 (b := w.heap.size + 1 + 1) (j := 0) (by omega) (by simp [go_sem, o0] <;> rfl)
  have o'1 := bcell hb2 (b := w.heap.size + 1 + 1) (j := 1) (by omega) (by simp [go_sem, o1] <;> rfl)
  have fr' : ∀ j, w2.frozen? ⟨w.heap.size + 1, j, none⟩ = false := fun j => bfroz hb2 (by omega) (by simp [go_sem, fr])
  have fo' : ∀ j, w2.frozen? ⟨w.heap.size + 1 + 1, j, none⟩ = false := fun j => bfroz hb2 (by omega) (by simp [go_sem, fo])
  have B2 : Hid (Below w.heap.size w w2) := (B1.out.setCell (by simp only; omega) _).trans (hb2.mono (by omega))
  have M2 : Hid (∀ b, w.heap.size + 1 + 1 + 1 ≤ b → b < w1.heap.size → ∀ o, w2.cell? ⟨b, o, none⟩ = w1.cell? ⟨b, o, none⟩) := fun b h1 h2 o => by
    rw [hb2.cell (p := ⟨b, o, none⟩) h2, far (by simp only [ne_eq]; omega)]
  have HX2 := hideP hx2
  clear hb2 hx2 B1 a1 r0 r1 o0 o1 fr fo K1 K2
  go_wp2_with fail
  have E : Hid (∀ (b1 o1 b2 o2 : Nat) (l1 l2 : List Value) (w3 : World), w3 = (w2.setCells b1 o1 l1).setCells b2 o2 l2 → w.heap.size ≤ b1 → w.heap.size ≤ b2 → b1 < w.heap.size + 1 + 1 + 1 → b2 < w.heap.size + 1 + 1 + 1 → XL QS 7 (Fr w.heap.size w3) w3 (some ⟨w.heap.size + 1 + 1 + 1, 0, none⟩) s.test ∧ XL QS 7 (Fr w.heap.size w3) w3 (some ⟨w1.heap.size, 0, none⟩) s.thn ∧ Below w.heap.size w w3) := fun b1 o1 b2 o2 l1 l2 w3 e h1 h2 h3 h4 => by
    subst e
    have g (b : Nat) (hb : w.heap.size + 1 + 1 + 1 ≤ b) (o : Nat) : ((w2.setCells b1 o1 l1).setCells b2 o2 l2).cell? ⟨b, o, none⟩ = w2.cell? ⟨b, o, none⟩ := by
      rw [World.cell?_setCells_out _ _ _ _ _ (fun e _ => by have : b = b2 := e; omega), World.cell?_setCells_out _ _ _ _ _ (fun e _ => by have : b = b1 := e; omega)]
    refine ⟨X1.out _ _ HX.out (fun b hb => ⟨⟨by have := hb.1; omega, by have := hb.2; rw [setCells_size, setCells_size]; omega⟩, fun o => (g b hb.1 o).trans (M2.out b hb.1 hb.2 o)⟩), X2.out _ _ _ HX2.out (fun b hb => ⟨⟨by have := hb.1; omega, by have := hb.2; rw [setCells_size, setCells_size]; omega⟩, fun o => g b (by have := hb.1; omega) o⟩), setCells_below _ h2 _ _ _ (setCells_below _ h1 _ _ _ B2.out)⟩
  refine bodyPost_ret (v := .agg #[.slice (some ⟨w.heap.size + 1 + 1 + 1, 0, none⟩) n1 n1, .slice (some ⟨w1.heap.size, 0, none⟩) n2 n2]) (by simp [results, Tryz.results41, go_sem, r'0, r'1]) rfl ⟨_, _, _, _, rfl, E.out (w.heap.size + 1 + 1) 1 (w.heap.size + 1) 0 [.slice (some ⟨w1.heap.size, 0, none⟩) n2 n2] [.slice (some ⟨w.heap.size + 1 + 1 + 1, 0, none⟩) n1 n1, .slice (some ⟨w1.heap.size, 0, none⟩) n2 n2] _ rfl (by omega) (by omega) (by omega) (by omega)⟩
theorem Tryz.inf43 : (Tryz.prog.info? 43).map (fun i => (i.zero, i.size, i.bytes)) = some (some (.agg #[.slice none 0 0, .slice none 0 0]), 2, 48) := by kernel_rfl
set_option maxHeartbeats 4000000 in
/-- laws.toGuardS -/
theorem toGuardS_any (c : List Pl.Gv) (ao : Option Addr) (cap : Nat) (w : World) (hl : c.length ≤ 1048576) (hk : ∀ s ∈ c, Pl.Sz s.test ∧ Pl.Sz s.thn) (hR : RdG w.heap.size w ao c) :
    Calls Tryz.prog 22 #[.slice ao c.length cap] w fun e w' => e = .returned (.slice (some ⟨w.heap.size, 0, none⟩) c.length c.length) ∧ XL QG 2 (Fr w.heap.size w') w' (some ⟨w.heap.size, 0, none⟩) c ∧ Below w.heap.size w w' ∧ w.heap.size < w'.heap.size := by
  obtain ⟨i0, hi, hz0, hz1, hz2⟩ := info_parts Tryz.inf43
  have HG : Hid (∀ k, k < c.length → ∃ s b off, c[k]? = some s ∧ s ∈ c ∧ ao = some ⟨b, off, none⟩ ∧ b < w.heap.size ∧ ∃ a1 a2 c1 c2, ∀ w', Below w.heap.size w w' → Gd w.heap.size w' b (off + k * 2) s a1 a2 c1 c2) := fun k hk => by
    rcases hR with rfl | ⟨b, off, hb, rfl, hc⟩
    · cases hk
    · obtain ⟨a1, a2, c1, c2, h⟩ := hc k c[k] (List.getElem?_eq_getElem hk)
      exact ⟨c[k], b, off, List.getElem?_eq_getElem hk, List.getElem_mem hk, rfl, hb, a1, a2, c1, c2, fun w' hw => h.keep hb hw⟩
  have HK := hideP hk
  clear hR hk
  generalize hn : c.length = n at *
  have Hn : Hid (c.length = n) := hn
  clear hn
  go_enter Tryz.func22, Tryz.ntmps22
  go_wp2_with (at_make; refine wpList_make_full _ rfl _ _ 38 rfl w.heap.size 43 i0 (.agg #[.slice none 0 0, .slice none 0 0]) 2 Tryz.underlying38 hi hz0 hz1 _ _ _ _ n rfl rfl rfl rfl ?b2 ?b3 ?b4 ?_)
  case b2 => rw [hz2]; omega
  case b3 => unfold maxLen; omega
  case b4 => exact Nat.le_refl _
  intro w1 hown hgrow
  have I0 : Hid (Inv QG 2 w c n 0 w1) := Inv.made hown (by simp [size_madeCells]) ((Below.refl _ _).grown hgrow (Nat.le_refl _) (by intro k h; cases h))
  clear hgrow hi hz0 hz1 hz2 hown
  go_wp2
  go_loopw [4] (fun i wr => ∃ k : Nat, k ≤ n ∧ i = .int .i64 k ∧ Hid (Inv QG 2 w c n k wr)) (fun i _ => n - (intOf i).toNat)
  case atStart => exact ⟨0, Nat.zero_le _, rfl, I0⟩
  case round =>
    clear I0
    obtain ⟨k, hk, rfl, hI⟩ := hrel
    by_cases hlt : k < n
    · obtain ⟨s, b, off, hs, hm, rfl, hb, a1, a2, c1, c2, hst⟩ := HG.out k hlt
      obtain ⟨c0', c1', r1, r2⟩ := hst _ hI.out.bel
      have hle := hI.out.bel.size
      have K := hideP (toGuard_any s a1 c1 a2 c2 wr (HK.out s hm).1 (HK.out s hm).2 (r1.up hle) (r2.up hle))
      have R : Hid (∀ w2 b1 d1 b2 d2, Inv QG 2 w c n k w2 → XL QS 7 (Fr (w.heap.size + 1) w2) w2 b1 s.test → XL QS 7 (Fr (w.heap.size + 1) w2) w2 b2 s.thn → Inv QG 2 w c n (k + 1) (w2.setCells w.heap.size (k * 2) [.slice b1 s.test.length d1, .slice b2 s.thn.length d2])) := fun w2 b1 d1 b2 d2 I hx hy => I.put mG _ rfl hlt hs (fun w3 hc hm => ⟨b1, d1, b2, d2, hc 0 (by simp), hc 1 (by simp), hx.mv mS hm, hy.mv mS hm⟩)
      clear r1 r2 hst hs hm HG HK
      generalize s.test.length = n1 at *
      generalize s.thn.length = n2 at *
      go_wp2_with fail
      refine K.out.mono ?_
      rintro e w2 ⟨b1, d1, b2, d2, rfl, hx, hy, hb2⟩
      have I2 := hideP (hI.out.keep mG hb2)
      have hlt2 := hI.out.lt
      have f0 := I2.out.fz (k * 2)
      obtain ⟨v0, g0⟩ := I2.out.cl (k * 2) (by omega)
      have f1 := I2.out.fz (k * 2 + 1)
      obtain ⟨v1, g1⟩ := I2.out.cl (k * 2 + 1) (by omega)
      have R2 := hideP (R.out w2 b1 d1 b2 d2 I2.out (hx.mv mS fun b h => ⟨⟨by omega, h.2⟩, fun _ => rfl⟩) (hy.mv mS fun b h => ⟨⟨by omega, h.2⟩, fun _ => rfl⟩))
      clear R K hx hy hI I2 hb2 hle
      go_wp2_with fail
      go_roundw
      case rel => exact ⟨k + 1, by omega, by go_num, R2⟩
      case measure => simp [intOf]; omega
    · have R : Hid (XL QG 2 (Fr w.heap.size wr) wr (some ⟨w.heap.size, 0, none⟩) c ∧ Below w.heap.size w wr ∧ w.heap.size < wr.heap.size) := ⟨hI.out.done mG (by rw [Hn.out]; omega), hI.out.bel, hI.out.lt⟩
      clear hI HG HK
      go_wp2
      go_ret
      exact ⟨rfl, R.out⟩
end Go.Proofs.YtljkolffjjhgeaaGreatDoor
