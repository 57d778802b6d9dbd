import Derived.Test.YtljkolffjjhgeaaDoorPlc
import Derived.Deep.QuietTactic
import Derived.BigQuiet
namespace Go.Proofs.YtljkolffjjhgeaaDoor
namespace Pl
/-- lengths that fit -/
def Sz (c : List Sv) : Prop := c.length ≤ 1048576 ∧ ∀ s ∈ c, s.nums.length ≤ 1048576
def SzG (c : List Gv) : Prop := c.length ≤ 1048576 ∧ ∀ s ∈ c, Sz s.test ∧ Sz s.thn
def SzT (c : List Tv) : Prop := c.length ≤ 1048576 ∧ ∀ s ∈ c, Sz s.code ∧ SzG s.gs
end Pl
open Go.RowKit
set_option linter.unusedVariables false
set_option maxRecDepth 100000
set_option maxHeartbeats 4000000 in
/-- laws.eqIntS of two that read the same -/
theorem eqIntS_same (l : List Int) (a1 a2 : Option Addr) (c1 c2 : Nat) (w : World) (hl : l.length ≤ 1048576) (R1 : RdI w.heap.size w a1 l) (R2 : RdI w.heap.size w a2 l) :
    Calls Tryd.prog 70 #[.slice a1 l.length c1, .slice a2 l.length c2] w fun e w' => e = .returned (.bool true) ∧ Below w.heap.size w w' := by
  have HG : Hid (∀ k, k < l.length → ∃ x b1 o1 b2 o2, a1 = some ⟨b1, o1, none⟩ ∧ b1 < w.heap.size ∧ a2 = some ⟨b2, o2, none⟩ ∧ b2 < w.heap.size ∧ ∀ w', Below w.heap.size w w' → w'.cell? ⟨b1, o1 + k, none⟩ = some (.int .i64 x) ∧ w'.cell? ⟨b2, o2 + k, none⟩ = some (.int .i64 x)) := fun k hk => by
    rcases R1 with rfl | ⟨b1, o1, h1, rfl, hc1⟩
    · cases hk
    rcases R2 with rfl | ⟨b2, o2, h2, rfl, hc2⟩
    · cases hk
    · exact ⟨l[k], b1, o1, b2, o2, rfl, h1, rfl, h2, fun w' hw => ⟨(hw.cell (p := ⟨b1, o1 + k, none⟩) h1).trans (hc1 k l[k] (List.getElem?_eq_getElem hk)), (hw.cell (p := ⟨b2, o2 + k, none⟩) h2).trans (hc2 k l[k] (List.getElem?_eq_getElem hk))⟩⟩
  clear R1 R2
  generalize l.length = n at *
  go_enter Tryd.func70, Tryd.ntmps70
  go_wp2
  go_loopw [5] (fun i wr => ∃ k : Nat, k ≤ n ∧ i = .int .i64 k ∧ Hid (Below w.heap.size w wr)) (fun i _ => n - (intOf i).toNat)
  case atStart => exact ⟨0, Nat.zero_le _, rfl, Below.refl _ _⟩
  case round =>
    obtain ⟨k, hk, rfl, HB⟩ := hrel
    by_cases hlt : k < n
    · obtain ⟨x, b1, o1, b2, o2, rfl, h1, rfl, h2, hc⟩ := HG.out k hlt
      obtain ⟨hck1, hck2⟩ := hc _ HB.out
      have hlt' : (k : Int) < (n : Int) := by omega
      clear hc HG
      go_wp2
      go_quiet (fail)
      go_wp2
      go_roundw
      case rel => exact ⟨k + 1, by omega, by go_num, below_drewN HB.out _⟩
      case measure => simp [intOf]; omega
    · clear HG
      go_wp2
      go_ret
      exact ⟨rfl, HB.out⟩
set_option maxHeartbeats 4000000 in
/-- laws.eqFn of two that are the same -/
theorem eqFn_same (k a b : Int) (nm : ByteArray) (w : World) :
    Calls Tryd.prog 71 #[.agg #[.int .i64 k, .int .i64 a, .int .i64 b, .string nm], .agg #[.int .i64 k, .int .i64 a, .int .i64 b, .string nm]] w fun e w' => e = .returned (.bool true) ∧ Below w.heap.size w w' := by
  have HB : Hid (∀ o1 o2 : Obj, Below w.heap.size w ((w.alloc o1).alloc o2)) := fun o1 o2 => ((Below.refl _ _).alloc (Nat.le_refl _) _).alloc (by simp) _
  go_enter Tryd.func71, Tryd.ntmps71
  go_wp2
  go_ret
  exact ⟨rfl, HB.out _ _⟩
set_option maxHeartbeats 4000000 in
/-- laws.eqStep of two that are the same -/
theorem eqStep_same (s : Pl.Sv) (a1 a2 : Option Addr) (c1 c2 : Nat) (w : World) (hn : s.nums.length ≤ 1048576) (r1 : RdI w.heap.size w a1 s.nums) (r2 : RdI w.heap.size w a2 s.nums) :
    Calls Tryd.prog 57 #[.agg #[.int .i64 s.k, .slice a1 s.nums.length c1, .string (Pl.ba s.nm), .int .i64 s.fn.k, .int .i64 s.fn.a, .int .i64 s.fn.b, .string (Pl.ba s.fn.nm)], .agg #[.int .i64 s.k, .slice a2 s.nums.length c2, .string (Pl.ba s.nm), .int .i64 s.fn.k, .int .i64 s.fn.a, .int .i64 s.fn.b, .string (Pl.ba s.fn.nm)]] w fun e w' => e = .returned (.bool true) ∧ Below w.heap.size w w' := by
  have HB : Hid (∀ o1 o2 : Obj, Below w.heap.size w ((w.alloc o1).alloc o2)) := fun o1 o2 => ((Below.refl _ _).alloc (Nat.le_refl _) _).alloc (by simp) _
  have K1 : Hid (∀ o1 o2, Calls Tryd.prog 70 #[.slice a1 s.nums.length c1, .slice a2 s.nums.length c2] ((w.alloc o1).alloc o2) fun e w' => e = .returned (.bool true) ∧ Below ((w.alloc o1).alloc o2).heap.size ((w.alloc o1).alloc o2) w') := fun o1 o2 => eqIntS_same s.nums a1 a2 c1 c2 _ hn ((r1.keep (HB.out _ _)).up (HB.out _ _).size) ((r2.keep (HB.out _ _)).up (HB.out _ _).size)
  clear r1 r2
  have K2 : Hid (∀ w', Below w.heap.size w w' → Calls Tryd.prog 71 #[.agg #[.int .i64 s.fn.k, .int .i64 s.fn.a, .int .i64 s.fn.b, .string (Pl.ba s.fn.nm)], .agg #[.int .i64 s.fn.k, .int .i64 s.fn.a, .int .i64 s.fn.b, .string (Pl.ba s.fn.nm)]] w' fun e w2 => e = .returned (.bool true) ∧ Below w'.heap.size w' w2) := fun w' _ => eqFn_same _ _ _ _ _
  generalize s.nums.length = sn at *
  generalize Pl.ba s.nm = nm at *
  generalize Pl.ba s.fn.nm = fnm at *
  generalize s.fn.k = fk at *
  generalize s.fn.a = fa at *
  generalize s.fn.b = fb at *
  generalize s.k = kk at *
  go_enter Tryd.func57, Tryd.ntmps57
  go_wp2_with fail
  refine (K1.out _ _).mono ?_
  rintro e w1 ⟨rfl, hb1⟩
  have p2 := bcell hb1 (b := w.heap.size) (j := 2) (by first | (simp; done) | (simp; omega)) (by simp [go_sem]; rfl)
  have q2 := bcell hb1 (b := w.heap.size + 1) (j := 2) (by first | (simp; done) | (simp; omega)) (by simp [go_sem]; rfl)
  have p3 := bcell hb1 (b := w.heap.size) (j := 3) (by first | (simp; done) | (simp; omega)) (by simp [go_sem]; rfl)
  have q3 := bcell hb1 (b := w.heap.size + 1) (j := 3) (by first | (simp; done) | (simp; omega)) (by simp [go_sem]; rfl)
  have p4 := bcell hb1 (b := w.heap.size) (j := 4) (by first | (simp; done) | (simp; omega)) (by simp [go_sem]; rfl)
  have q4 := bcell hb1 (b := w.heap.size + 1) (j := 4) (by first | (simp; done) | (simp; omega)) (by simp [go_sem]; rfl)
  have p5 := bcell hb1 (b := w.heap.size) (j := 5) (by first | (simp; done) | (simp; omega)) (by simp [go_sem]; rfl)
  have q5 := bcell hb1 (b := w.heap.size + 1) (j := 5) (by first | (simp; done) | (simp; omega)) (by simp [go_sem]; rfl)
  have p6 := bcell hb1 (b := w.heap.size) (j := 6) (by first | (simp; done) | (simp; omega)) (by simp [go_sem]; rfl)
  have q6 := bcell hb1 (b := w.heap.size + 1) (j := 6) (by first | (simp; done) | (simp; omega)) (by simp [go_sem]; rfl)
  have B1 := hideP ((HB.out _ _).trans (hb1.mono (by simp; omega)))
  clear hb1
  go_wp2_with fail
  refine (K2.out _ B1.out).mono ?_
  rintro e w2 ⟨rfl, hb2⟩
  have B2 := hideP (B1.out.trans (hb2.mono B1.out.size))
  clear hb2
  go_wp2_with fail
  go_ret
  exact ⟨rfl, B2.out⟩
set_option maxHeartbeats 4000000 in
/-- laws.eqStepS of two that read the same -/
theorem eqStepS_same (c : List Pl.Sv) (a1 a2 : Option Addr) (c1 c2 : Nat) (w : World) (hl : c.length ≤ 1048576) (hk : ∀ s ∈ c, s.nums.length ≤ 1048576) (R1 : RdS w.heap.size w a1 c) (R2 : RdS w.heap.size w a2 c) :
    Calls Tryd.prog 35 #[.slice a1 c.length c1, .slice a2 c.length c2] w fun e w' => e = .returned (.bool true) ∧ Below w.heap.size w w' := by
  have HG : Hid (∀ k, k < c.length → ∃ s b1 o1 b2 o2, s ∈ c ∧ a1 = some ⟨b1, o1, none⟩ ∧ b1 < w.heap.size ∧ a2 = some ⟨b2, o2, none⟩ ∧ b2 < w.heap.size ∧ (∃ anx cnx, ∀ w', Below w.heap.size w w' → Stp w.heap.size w' b1 (o1 + k * 7) s anx cnx) ∧ (∃ any cny, ∀ w', Below w.heap.size w w' → Stp w.heap.size w' b2 (o2 + k * 7) s any cny)) := fun k hk => by
    rcases R1 with rfl | ⟨b1, o1, h1, rfl, hc1⟩
    · cases hk
    rcases R2 with rfl | ⟨b2, o2, h2, rfl, hc2⟩
    · cases hk
    · obtain ⟨anx, cnx, g1⟩ := hc1 k c[k] (List.getElem?_eq_getElem hk)
      obtain ⟨any, cny, g2⟩ := hc2 k c[k] (List.getElem?_eq_getElem hk)
      exact ⟨c[k], b1, o1, b2, o2, List.getElem_mem hk, rfl, h1, rfl, h2, ⟨anx, cnx, fun w' hw => g1.keep h1 hw⟩, ⟨any, cny, fun w' hw => g2.keep h2 hw⟩⟩
  have HK := hideP hk
  clear R1 R2 hk
  generalize c.length = n at *
  go_enter Tryd.func35, Tryd.ntmps35
  go_wp2
  go_loopw [5] (fun i wr => ∃ k : Nat, k ≤ n ∧ i = .int .i64 k ∧ Hid (Below w.heap.size w wr)) (fun i _ => n - (intOf i).toNat)
  case atStart => exact ⟨0, Nat.zero_le _, rfl, Below.refl _ _⟩
  case round =>
    obtain ⟨k, hk, rfl, HB⟩ := hrel
    by_cases hlt : k < n
    · obtain ⟨s, b1, o1, b2, o2, hm, rfl, h1, rfl, h2, ⟨anx, cnx, g1⟩, ⟨any, cny, g2⟩⟩ := HG.out k hlt
      have K := hideP (fun w' (hw : Below w.heap.size w w') => eqStep_same s anx any cnx cny w' (HK.out s hm) ((g1 _ hw).rd.up hw.size) ((g2 _ hw).rd.up hw.size))
      obtain ⟨u0, u1, u2, u3, u4, u5, u6, ur⟩ := g1 _ HB.out
      obtain ⟨v0, v1, v2, v3, v4, v5, v6, vr⟩ := g2 _ HB.out
      clear g1 g2 HG HK hm ur vr
      generalize s.nums.length = sn at *
      generalize Pl.ba s.nm = nm at *
      generalize Pl.ba s.fn.nm = fnm at *
      generalize s.fn.k = fk at *
      generalize s.fn.a = fa at *
      generalize s.fn.b = fb at *
      generalize s.k = kk at *
      go_wp2
      go_region_with (go_at_call 57; refine (K.out _ HB.out.drew).mono ?_; rintro e w2 ⟨rfl, hb3⟩; have HB2 := hideP (HB.out.drew.trans (hb3.mono HB.out.drew.size)); clear hb3)
      all_goals go_wp2_with fail
      all_goals go_roundw
      all_goals first
        | exact ⟨k + 1, by omega, by go_num, HB2⟩
        | (simp [intOf]; omega)
    · clear HG HK
      go_wp2
      go_ret
      exact ⟨rfl, HB.out⟩
end Go.Proofs.YtljkolffjjhgeaaDoor
