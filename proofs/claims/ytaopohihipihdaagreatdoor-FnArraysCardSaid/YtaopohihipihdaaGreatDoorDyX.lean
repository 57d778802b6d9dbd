import Derived.Test.YtaopohihipihdaaGreatDoorDyTG
import Derived.Test.YtaopohihipihdaaGreatDoorDyC
namespace Go.Proofs.YtaopohihipihdaaGreatDoor
open Go.RowKit
set_option linter.unusedVariables false

set_option maxRecDepth 100000 in
set_option maxHeartbeats 4000000 in
/-- impl.take of valid arrays -/
theorem take_anyG (a0 : Option Addr) (k0 : Nat) (a1 : Option Addr) (k1 : Nat) (a2 : Option Addr) (k2 : Nat) (a3 : Option Addr) (k3 : Nat) (sa da sb db : List Int) (w : World)
    (h0 : Rd w.heap.size w (.slice a0 sa.length k0) sa) (h1 : Rd w.heap.size w (.slice a1 da.length k1) da) (h2 : Rd w.heap.size w (.slice a2 sb.length k2) sb) (h3 : Rd w.heap.size w (.slice a3 db.length k3) db)
    (hk2 : sb.length ≤ k2) (hk2' : k2 ≤ 9223372036854775807) (hk3 : db.length ≤ k3) (hk3' : 0 < db.length → k3 ≤ 9223372036854775807) (oka : Pl.okB sa da = true) (okb : Pl.okB sb db = true) (c : Int) (S D : List Int) (hres : Pl.takeM sa da sb db = (c, S, D)) :
    Calls Tryz.prog 51 #[.agg #[.slice a0 sa.length k0, .slice a1 da.length k1], .agg #[.slice a2 sb.length k2, .slice a3 db.length k3]] w (KPost w c S D) := by
  have e := hres
  unfold Pl.takeM at e
  by_cases hsa : sa.length = 0
  · rw [if_pos hsa] at e
    obtain ⟨x, hx⟩ := List.length_eq_one_iff.1 (Pl.ok_one oka hsa)
    obtain ⟨n', tb, hax⟩ := Pl.axes_cons sb db
    have okx := Pl.axes_ok okb
    rw [hax] at okx
    have m2 := Pl.ok_max okx
    have hx2 := Pl.ok_cell oka (show x ∈ da by rw [hx]; simp)
    have hb : Pl.baseB (n' :: tb) = true := by
      have := (Pl.ok_len okx).2
      simp only [Pl.fitsB, Bool.and_eq_true] at this
      exact this.1
    have hbb : Pl.baseB tb = true := Pl.base_tail hb
    have hnr : 0 ≤ n' ∧ n' ≤ 1000 := by
      simp only [Pl.baseB, Bool.and_eq_true, List.all_cons] at hb
      exact Pl.inR_bd hb.2.1
    obtain ⟨n, rfl⟩ := Int.eq_ofNat_of_zero_le hnr.1
    have hpT := (Pl.prod_two tb hbb).1
    obtain ⟨TP, hTP⟩ := Int.eq_ofNat_of_zero_le hpT.1
    have hrow : n * TP ≤ db.length := by
      by_cases hn0 : n = 0
      · rw [hn0, Nat.zero_mul]; exact Nat.zero_le _
      · obtain ⟨hft, n'', s, e1, e2, _, _, e3⟩ := Pl.ok_rows okx (by simp) (by show ¬ (n : Int) = 0; omega)
        have en : n'' = n := by
          have : (n : Int) = n'' := e1
          omega
        have es : s = TP := by
          have := (Pl.prod_eq hft).symm.trans e2
          have h' : Pl.prodP tb = (s : Int) := this
          omega
        rw [e3, en, es]
        exact Nat.le_refl _
    rw [hax, hx] at e
    simp only [List.getD_cons_zero, List.tail_cons, hTP, Int.toNat_natCast] at e
    have hg : 0 ≤ Pl.gone x n ∧ Pl.gone x n ≤ n := by unfold Pl.gone; omega
    obtain ⟨go, hgo⟩ := Int.eq_ofNat_of_zero_le hg.1
    obtain ⟨W, hW⟩ := Int.eq_ofNat_of_zero_le (show 0 ≤ max x (-x) by omega)
    have hgw : (go : Int) ≤ W := by rw [← hgo, ← hW]; unfold Pl.gone; omega
    rw [hgo, hW, Int.toNat_natCast, Int.toNat_natCast] at e
    obtain ⟨b1, o1, rfl⟩ := rd_some h1 (by rw [hx]; simp)
    refine take_coreG a0 k0 b1 o1 k1 a2 k2 a3 k3 sa da sb db tb x n w h0 h1 h2 h3 hk2 hk2' hk3 hk3' hsa hx hax hx2.1 hx2.2 (by omega) (by have := m2.1; simp at this; omega) hbb m2.2 TP hTP hrow W go hW hgo (by omega) (by omega) c S D e (fun hf => ?_)
    rw [Pl.fits_eq] at hf
    simp only [Bool.and_eq_true, decide_eq_true_eq] at hf
    have h4 := hf.2
    rw [Pl.prodP_cons, hTP] at h4
    have : ((W * TP : Nat) : Int) = (W : Int) * (TP : Int) := by simp
    omega
  · rw [if_neg hsa] at e
    simp only [Prod.mk.injEq] at e
    obtain ⟨rfl, rfl, rfl⟩ := e
    have KA : Hid (∀ w', Calls Tryz.prog 63 #[.agg #[.slice a0 sa.length k0, .slice a1 da.length k1]] w' fun e w'' => e = .returned (.bool false) ∧ Below w'.heap.size w' w'') := fun w' => by
      have := isScalar_any _ (.slice a1 da.length k1) sa _ w' w h0
      rw [decide_eq_false hsa] at this
      exact this
    have W0 := hideP (wid_new w h0 h1 h2 h3 25 25 25)
    clear h0 h1 h2 h3 oka okb hres hsa
    generalize sa.length = la at *
    go_enter Tryz.func51, Tryz.ntmps51
    go_wp2_with fail
    refine (KA.out _).mono ?_
    rintro e w1 ⟨rfl, hb1⟩
    have BW := hideP (W0.out.keep hb1).1
    clear hb1
    go_wp2_with (go_at_call 36; refine (refuse_yes _ _).mono ?_; rintro e w1 ⟨rfl, rfl⟩)
    exact ⟨rfl, BW.out, .inr ⟨by decide, rfl, rfl, rfl⟩⟩


end Go.Proofs.YtaopohihipihdaaGreatDoor

namespace Go.Proofs.YtaopohihipihdaaGreatDoor
open Go.RowKit
set_option linter.unusedVariables false

theorem callF30d (args : Array Value) (w : World) : (callFunc 28 args).run Tryz.prog w = .ok (.enter 28 args) w := by kernel_rfl

set_option maxRecDepth 100000 in
set_option maxHeartbeats 1000000 in
/-- impl.Dyad -/
theorem take_faceG (a0 : Option Addr) (k0 : Nat) (a1 : Option Addr) (k1 : Nat) (a2 : Option Addr) (k2 : Nat) (a3 : Option Addr) (k3 : Nat) (sa da sb db : List Int) (w : World) (hl0 : sa.length ≤ 1048576) (hl1 : da.length ≤ 1048576) (hl2 : sb.length ≤ 1048576) (hl3 : db.length ≤ 1048576) (h0 : Rd w.heap.size w (.slice a0 sa.length k0) sa) (h1 : Rd w.heap.size w (.slice a1 da.length k1) da) (h2 : Rd w.heap.size w (.slice a2 sb.length k2) sb) (h3 : Rd w.heap.size w (.slice a3 db.length k3) db) (hk2 : sb.length ≤ k2) (hk2' : k2 ≤ 9223372036854775807) (hk3 : db.length ≤ k3) (hk3' : 0 < db.length → k3 ≤ 9223372036854775807)
    (c : Int) (S D : List Int) (hres : Pl.dy8 Pl.takeM 2 sa da sb db = (c, S, D)) :
    Calls Tryz.prog 11 #[.int .i64 2, .agg #[.slice a0 sa.length k0, .slice a1 da.length k1], .agg #[(.slice a2 sb.length k2), (.slice a3 db.length k3)]] w (FPost w c S D) := by
  have hmf : ∀ (fn : Fn) (first cap : Array Value) (w : World), (Instr.makeFunc fn first cap).run Tryz.prog w = .ok (.func fn first cap) w := fun _ _ _ _ => rfl
  have K : Hid (∀ pa pb po w', Below w.heap.size w w' → w'.cell? ⟨pa, 0, none⟩ = some (.slice a0 sa.length k0) → w'.cell? ⟨pa, 1, none⟩ = some (.slice a1 da.length k1) → w'.cell? ⟨pb, 0, none⟩ = some (.slice a2 sb.length k2) → w'.cell? ⟨pb, 1, none⟩ = some (.slice a3 db.length k3) → w'.cell? ⟨po, 0, none⟩ = some (.int .i64 2) → Calls Tryz.prog 28 #[.pointer (some ⟨pa, 0, none⟩), .pointer (some ⟨pb, 0, none⟩), .pointer (some ⟨po, 0, none⟩)] w' (KPost w' c S D)) :=
    fun pa pb po w' hb g0 g1 g2 g3 g4 => dc_all pa pb po 2 (.slice a0 sa.length k0) (.slice a1 da.length k1) (.slice a2 sb.length k2) (.slice a3 db.length k3) sa da sb db w' hl0 hl1 hl2 hl3 ((h0.keep hb).up hb.size) ((h1.keep hb).up hb.size) ((h2.keep hb).up hb.size) ((h3.keep hb).up hb.size) g0 g1 g2 g3 g4 _ c S D hres
      (fun k hk kk0 kk1 oka okb e w'' hb' => by
        have hb2 := hb.trans (hb'.mono hb.size)
        have q0 := (h0.keep hb2).up hb2.size
        have q1 := (h1.keep hb2).up hb2.size
        have q2 := (h2.keep hb2).up hb2.size
        have q3 := (h3.keep hb2).up hb2.size
        have hk' : k = 2 := by omega
        subst hk'
        exact take_anyG a0 k0 a1 k1 a2 k2 a3 k3 sa da sb db w'' q0 q1 q2 q3 hk2 hk2' hk3 hk3' oka okb c S D e)
  clear h0 h1 h2 h3 hres hk2 hk2' hk3 hk3'
  generalize sa.length = L0 at *
  generalize da.length = L1 at *
  generalize sb.length = L2 at *
  generalize db.length = L3 at *
  go_enter Tryz.func11, Tryz.ntmps11
  go_wp2_with fail
  refine (answer_any 28 _ c S D _ (callF30d _) ?_).mono ?_
  · refine K.out (w.heap.size + 1) (w.heap.size + 1 + 1) w.heap.size _ ?_ ?_ ?_ ?_ ?_ ?_
    · exact ((((((Below.refl _ _).alloc (Nat.le_refl _) _).alloc (by simp) _).alloc (by simp; omega) _).alloc (by simp; omega) _).alloc (by simp; omega) _).alloc (by simp; omega) _
    · simp [go_sem]
    · simp [go_sem]
    · simp [go_sem]
    · simp [go_sem]
    · simp [go_sem]
  rintro e w1 ⟨hb1, u0, u1, rfl, hres⟩
  have B0 : Hid (Below w.heap.size w w1) := (((((Below.refl _ _).alloc (Nat.le_refl _) _).alloc (by simp) _).alloc (by simp; omega) _).alloc (by simp; omega) _).trans (hb1.mono (by simp; omega))
  have hs := hb1.size
  simp at hs
  obtain ⟨hc, hf⟩ := bcell hb1
  have r0 : w1.cell? ⟨w.heap.size + 1 + 1 + 1, 0, none⟩ = some (.slice none 0 0) := by rw [hc (w.heap.size + 1 + 1 + 1) 0 (by simp)]; simp [go_sem]
  have r1 : w1.cell? ⟨w.heap.size + 1 + 1 + 1, 1, none⟩ = some (.slice none 0 0) := by rw [hc (w.heap.size + 1 + 1 + 1) 1 (by simp)]; simp [go_sem]
  have f3 : ∀ o, w1.frozen? ⟨w.heap.size + 1 + 1 + 1, o, none⟩ = false := fun o => by rw [hf (w.heap.size + 1 + 1 + 1) o (by simp)]; simp [go_sem]
  have R : Hid (Res (w.heap.size + 1 + 1 + 1 + 1) w1 u0 u1 S D) := by
    have := hres
    show Res _ _ _ _ _ _
    simpa using this
  obtain ⟨x0, y0, e0⟩ := hres.1.form
  obtain ⟨x1, y1, e1⟩ := hres.2.1.form
  subst e0
  subst e1
  clear hc hf hb1 hres K
  go_wp2_with fail
  refine bodyPost_ret (v := .tuple #[.agg #[.slice x0 S.length y0, .slice x1 D.length y1], .int .i64 c]) (by simp [results, Tryz.results11, go_sem, r0, r1]) rfl ⟨(B0.out.setCell (by simp; omega) _).setCell (by simp; omega) _, _, _, rfl, ?_, ?_, R.out.2.2⟩
  · exact Own.base (Own.store (Own.store R.out.1 (by omega) _) (by omega) _) (by omega)
  · exact Own.base (Own.store (Own.store R.out.2.1 (by omega) _) (by omega) _) (by omega)


end Go.Proofs.YtaopohihipihdaaGreatDoor

namespace Go.Proofs.YtaopohihipihdaaGreatDoor
open Go.RowKit
set_option linter.unusedVariables false

/-- a slice with its first cell cut off, whatever the capacity -/
theorem exec_lok {o : Oper} {a : Act} (x y : Operand) (g m k o2 : Nat) (h : o2 = if k = 1 then 0 else 1) (ho : o.op = Op.slice 23 x (some y) none none) (hx : a.eval x = .slice (some ⟨g, 0, none⟩) (m + 1) k) (hy : a.eval y = .int .i64 1) (w : World) :
    (execOp a.eval o).run Tryz.prog w = .ok (.value (.slice (some ⟨g, o2, none⟩) m (k - 1))) w := by
  have e : (Instr.sliceAt 23 (.slice (some ⟨g, 0, none⟩) (m + 1) k) (some (.int .i64 ((1 : Nat) : Int))) none none).run Tryz.prog w = .ok (.slice (some ⟨g, o2, none⟩) m (k - 1)) w := by
    rw [run_sliceAt_slice _ _ _ _ _ _ und22, run_slice_l _ _ _ _ _ und22 _ _ (by omega) (by omega), sizeOf3]
    subst h
    by_cases hm : k = 1
    · subst hm
      simp [sliced, Result.andThen]
    · simp [sliced, Result.andThen, Addr.add, hm]
  have e' : (Instr.sliceAt 23 (.slice (some ⟨g, 0, none⟩) (m + 1) k) (some (.int .i64 1)) none none).run Tryz.prog w = .ok (.slice (some ⟨g, o2, none⟩) m (k - 1)) w := e
  simp [execOp, ho, hx, hy, e', Result.andThen]
theorem rd_onek {B b2 o2 k m : Nat} {w : World} {xs : List Int} (hx : xs.length = m + 1) (hk : m + 1 ≤ k) (ho2 : o2 = if k = 1 then 0 else 1) (h2 : Rd B w (.slice (some ⟨b2, 0, none⟩) xs.length k) xs) : Rd B w (.slice (some ⟨b2, o2, none⟩) m (k - 1)) xs.tail := by
  have ht : xs.tail.length = m := by rw [List.length_tail]; omega
  by_cases hm : m = 0
  · rw [hm]
    exact rd_zero _ _ _ _ _ (by omega)
  · rw [if_neg (by omega)] at ho2
    subst ho2
    have := rd_tail h2 (by omega) (k - 1)
    rw [hx] at this
    simpa using this

theorem Rd.aside2 {B g c A : Nat} {w : World} {zs : List Int} {q : Option Addr} {m k : Nat} (h : Rd B w (.slice (some ⟨g, 0, none⟩) zs.length c) zs) (hA : w.cell? ⟨A, 0, none⟩ = some (.slice q m k)) (v0 v1 : Value) : Rd B ((w.setCell ⟨A, 0, none⟩ v0).setCell ⟨A, 1, none⟩ v1) (.slice (some ⟨g, 0, none⟩) zs.length c) zs := by
  rcases rd_ne h hA with h0 | hn
  · rw [h0]
    exact rd_zero _ _ _ _ _ h0
  · exact (h.aside hn 0 v0).aside hn 1 v1

theorem Rd.aside2G {B c A : Nat} {w : World} {zs : List Int} {p q : Option Addr} {m k : Nat} (h : Rd B w (.slice p zs.length c) zs) (hz : 0 < zs.length → ∃ g, p = some ⟨g, 0, none⟩) (hA : w.cell? ⟨A, 0, none⟩ = some (.slice q m k)) (v0 v1 : Value) : Rd B ((w.setCell ⟨A, 0, none⟩ v0).setCell ⟨A, 1, none⟩ v1) (.slice p zs.length c) zs := by
  by_cases h0 : zs.length = 0
  · rw [h0]
    exact rd_zero _ _ _ _ _ h0
  · obtain ⟨g, rfl⟩ := hz (by omega)
    exact h.aside2 hA v0 v1

/-- two arrays in their variables, and the answer's behind them -/
structure Cs (w : World) (xs da ys db : List Int) (ga ka : Nat) (g1 : Option Addr) (k1 gb kb : Nat) (g3 : Option Addr) (k3 : Nat) (wx : World) : Prop where
  bel : Below w.heap.size w wx
  size : w.heap.size + 1 + 1 < wx.heap.size
  a0 : wx.cell? ⟨w.heap.size, 0, none⟩ = some (.slice (some ⟨ga, 0, none⟩) xs.length ka)
  a1 : wx.cell? ⟨w.heap.size, 1, none⟩ = some (.slice g1 da.length k1)
  b0 : wx.cell? ⟨w.heap.size + 1, 0, none⟩ = some (.slice (some ⟨gb, 0, none⟩) ys.length kb)
  b1 : wx.cell? ⟨w.heap.size + 1, 1, none⟩ = some (.slice g3 db.length k3)
  res : wx.cell? ⟨w.heap.size + 1 + 1, 0, none⟩ = some (.slice none 0 0) ∧ wx.cell? ⟨w.heap.size + 1 + 1, 1, none⟩ = some (.slice none 0 0) ∧ ∀ o, wx.frozen? ⟨w.heap.size + 1 + 1, o, none⟩ = false
  fa : ∀ o, wx.frozen? ⟨w.heap.size, o, none⟩ = false
  fb : ∀ o, wx.frozen? ⟨w.heap.size + 1, o, none⟩ = false
  xa : Rd wx.heap.size wx (.slice (some ⟨ga, 0, none⟩) xs.length ka) xs
  xd : Rd wx.heap.size wx (.slice g1 da.length k1) da
  xb : Rd wx.heap.size wx (.slice (some ⟨gb, 0, none⟩) ys.length kb) ys
  xe : Rd wx.heap.size wx (.slice g3 db.length k3) db
  ca : xs.length ≤ ka ∧ ka ≤ 9223372036854775807
  cb : ys.length ≤ kb ∧ kb ≤ 9223372036854775807
  z1 : 0 < da.length → ∃ g, g1 = some ⟨g, 0, none⟩
  z3 : 0 < db.length → ∃ g, g3 = some ⟨g, 0, none⟩

theorem Cs.keep {w wx w' : World} {xs da ys db : List Int} {ga ka : Nat} {g1 : Option Addr} {k1 gb kb : Nat} {g3 : Option Addr} {k3 : Nat} (h : Cs w xs da ys db ga ka g1 k1 gb kb g3 k3 wx) (hb : Below wx.heap.size wx w') : Cs w xs da ys db ga ka g1 k1 gb kb g3 k3 w' := by
  have hs := hb.size
  have h2 := h.size
  have k : ∀ b o v, b < wx.heap.size → wx.cell? ⟨b, o, none⟩ = some v → w'.cell? ⟨b, o, none⟩ = some v := fun b o v hlt e => (hb.cell (p := ⟨b, o, none⟩) hlt).trans e
  have f : ∀ b o, b < wx.heap.size → wx.frozen? ⟨b, o, none⟩ = false → w'.frozen? ⟨b, o, none⟩ = false := fun b o hlt e => (hb.frozen (p := ⟨b, o, none⟩) hlt).trans e
  exact ⟨h.bel.trans (hb.mono (by omega)), by omega, k _ _ _ (by omega) h.a0, k _ _ _ (by omega) h.a1, k _ _ _ (by omega) h.b0, k _ _ _ (by omega) h.b1, ⟨k _ _ _ (by omega) h.res.1, k _ _ _ (by omega) h.res.2.1, fun o => f _ _ (by omega) (h.res.2.2 o)⟩, fun o => f _ _ (by omega) (h.fa o), fun o => f _ _ (by omega) (h.fb o),
    (h.xa.keep hb).up hs, (h.xd.keep hb).up hs, (h.xb.keep hb).up hs, (h.xe.keep hb).up hs, h.ca, h.cb, h.z1, h.z3⟩

theorem Cs.putA {w wx : World} {xs da ys db : List Int} {ga ka : Nat} {g1 : Option Addr} {k1 gb kb : Nat} {g3 : Option Addr} {k3 : Nat} (h : Cs w xs da ys db ga ka g1 k1 gb kb g3 k3 wx) {xs' da' : List Int} {ga' ka' : Nat} {g1' : Option Addr} {k1' : Nat} (hx : Rd wx.heap.size wx (.slice (some ⟨ga', 0, none⟩) xs'.length ka') xs') (hd : Rd wx.heap.size wx (.slice g1' da'.length k1') da') (hc : xs'.length ≤ ka' ∧ ka' ≤ 9223372036854775807) (hz : 0 < da'.length → ∃ g, g1' = some ⟨g, 0, none⟩) :
    Cs w xs' da' ys db ga' ka' g1' k1' gb kb g3 k3 ((wx.setCell ⟨w.heap.size, 0, none⟩ (.slice (some ⟨ga', 0, none⟩) xs'.length ka')).setCell ⟨w.heap.size, 1, none⟩ (.slice g1' da'.length k1')) := by
  have h2 := h.size
  have e0 := h.a0
  have e1 := h.a1
  have e2 := h.b0
  have e3 := h.b1
  obtain ⟨e4, e5, e6⟩ := h.res
  have f1 := h.fa
  have f2 := h.fb
  refine ⟨(h.bel.setCell (by simp) _).setCell (by simp) _, by simpa using h2, by simp [go_sem, e0], by simp [go_sem, e1], by simp [go_sem, e2], by simp [go_sem, e3], ⟨by simp [go_sem, e4], by simp [go_sem, e5], fun o => by simp [go_sem, e6]⟩, fun o => by simp [go_sem, f1], fun o => by simp [go_sem, f2], ?_, ?_, ?_, ?_, hc, h.cb, hz, h.z3⟩
  · simpa using hx.aside2 e0 (.slice (some ⟨ga', 0, none⟩) xs'.length ka') (.slice g1' da'.length k1')
  · simpa using hd.aside2G hz e0 (.slice (some ⟨ga', 0, none⟩) xs'.length ka') (.slice g1' da'.length k1')
  · simpa using h.xb.aside2 e0 (.slice (some ⟨ga', 0, none⟩) xs'.length ka') (.slice g1' da'.length k1')
  · simpa using h.xe.aside2G h.z3 e0 (.slice (some ⟨ga', 0, none⟩) xs'.length ka') (.slice g1' da'.length k1')

theorem Cs.putB {w wx : World} {xs da ys db : List Int} {ga ka : Nat} {g1 : Option Addr} {k1 gb kb : Nat} {g3 : Option Addr} {k3 : Nat} (h : Cs w xs da ys db ga ka g1 k1 gb kb g3 k3 wx) {xs' da' : List Int} {ga' ka' : Nat} {g1' : Option Addr} {k1' : Nat} (hx : Rd wx.heap.size wx (.slice (some ⟨ga', 0, none⟩) xs'.length ka') xs') (hd : Rd wx.heap.size wx (.slice g1' da'.length k1') da') (hc : xs'.length ≤ ka' ∧ ka' ≤ 9223372036854775807) (hz : 0 < da'.length → ∃ g, g1' = some ⟨g, 0, none⟩) :
    Cs w xs da xs' da' ga ka g1 k1 ga' ka' g1' k1' ((wx.setCell ⟨w.heap.size + 1, 0, none⟩ (.slice (some ⟨ga', 0, none⟩) xs'.length ka')).setCell ⟨w.heap.size + 1, 1, none⟩ (.slice g1' da'.length k1')) := by
  have h2 := h.size
  have e0 := h.a0
  have e1 := h.a1
  have e2 := h.b0
  have e3 := h.b1
  obtain ⟨e4, e5, e6⟩ := h.res
  have f1 := h.fa
  have f2 := h.fb
  refine ⟨(h.bel.setCell (by simp) _).setCell (by simp) _, by simpa using h2, by simp [go_sem, e0], by simp [go_sem, e1], by simp [go_sem, e2], by simp [go_sem, e3], ⟨by simp [go_sem, e4], by simp [go_sem, e5], fun o => by simp [go_sem, e6]⟩, fun o => by simp [go_sem, f1], fun o => by simp [go_sem, f2], ?_, ?_, ?_, ?_, h.ca, hc, h.z1, hz⟩
  · simpa using h.xa.aside2 e2 (.slice (some ⟨ga', 0, none⟩) xs'.length ka') (.slice g1' da'.length k1')
  · simpa using h.xd.aside2G h.z1 e2 (.slice (some ⟨ga', 0, none⟩) xs'.length ka') (.slice g1' da'.length k1')
  · simpa using hx.aside2 e2 (.slice (some ⟨ga', 0, none⟩) xs'.length ka') (.slice g1' da'.length k1')
  · simpa using hd.aside2G hz e2 (.slice (some ⟨ga', 0, none⟩) xs'.length ka') (.slice g1' da'.length k1')

theorem Cs.new (w : World) (xs da ys db : List Int) (b0 k0 : Nat) (a1 : Option Addr) (k1 b2 k2 : Nat) (a3 : Option Addr) (k3 : Nat) (h0 : Rd w.heap.size w (.slice (some ⟨b0, 0, none⟩) xs.length k0) xs) (h1 : Rd w.heap.size w (.slice a1 da.length k1) da) (h2 : Rd w.heap.size w (.slice (some ⟨b2, 0, none⟩) ys.length k2) ys) (h3 : Rd w.heap.size w (.slice a3 db.length k3) db) (hx : xs.length ≤ k0 ∧ k0 ≤ 9223372036854775807) (hy : ys.length ≤ k2 ∧ k2 ≤ 9223372036854775807) (z1 : 0 < da.length → ∃ g, a1 = some ⟨g, 0, none⟩) (z3 : 0 < db.length → ∃ g, a3 = some ⟨g, 0, none⟩) :
    Cs w xs da ys db b0 k0 a1 k1 b2 k2 a3 k3 (((w.alloc (.cells #[.slice (some ⟨b0, 0, none⟩) xs.length k0, .slice a1 da.length k1] 25)).alloc (.cells #[.slice (some ⟨b2, 0, none⟩) ys.length k2, .slice a3 db.length k3] 25)).alloc (.cells #[.slice none 0 0, .slice none 0 0] 25)) := by
  obtain ⟨q1, q2, ⟨q3, q4, q5, q6⟩, q7, q8, q9, q10, q11⟩ := wid_new w h0 h1 h2 h3 25 25 25
  exact ⟨q1, q2, q3, q4, q5, q6, q7, fun o => by simp [go_sem], fun o => by simp [go_sem], q8, q9, q10, q11, hx, hy, z1, z3⟩

end Go.Proofs.YtaopohihipihdaaGreatDoor
