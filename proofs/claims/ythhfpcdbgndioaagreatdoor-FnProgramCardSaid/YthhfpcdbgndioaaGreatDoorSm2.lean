import Derived.Test.YthhfpcdbgndioaaGreatDoorSp7
namespace Go.Proofs.YthhfpcdbgndioaaGreatDoor
open Go.RowKit
set_option linter.unusedVariables false
set_option maxRecDepth 100000
set_option maxHeartbeats 4000000 in
/-- spec.l2Same of two that read the same -/
theorem l2Same_same (l : List Int) (a1 a2 : Option Addr) (c1 c2 : Nat) (w : World) (hl : l.length ≤ 1048576) (R1 : RdI w.heap.size w a1 l) (R2 : RdI w.heap.size w a2 l) :
    Calls Tryz.prog 34 #[.slice a1 l.length c1, .slice a2 l.length c2] w fun e w' => e = .returned (.bool true) ∧ ∃ q, w' = w.drewN q := by
  have HG : Hid (∀ k, k < l.length → ∃ x b1 o1 b2 o2, a1 = some ⟨b1, o1, none⟩ ∧ a2 = some ⟨b2, o2, none⟩ ∧ w.cell? ⟨b1, o1 + k, none⟩ = some (.int .i64 x) ∧ w.cell? ⟨b2, o2 + k, none⟩ = some (.int .i64 x)) := fun k hk => by
    rcases R1 with rfl | ⟨b1, o1, h1, rfl, hc1⟩
    · cases hk
    rcases R2 with rfl | ⟨b2, o2, h2, rfl, hc2⟩
    · cases hk
    · exact ⟨l[k], b1, o1, b2, o2, rfl, rfl, hc1 k l[k] (List.getElem?_eq_getElem hk), hc2 k l[k] (List.getElem?_eq_getElem hk)⟩
  clear R1 R2
  generalize l.length = n at *
  go_enter Tryz.func34, Tryz.ntmps34
  go_wp2
  go_loopw [5] (fun i wr => ∃ k q : Nat, k ≤ n ∧ i = .int .i64 k ∧ wr = w.drewN q) (fun i _ => n - (intOf i).toNat)
  case atStart => exact ⟨0, 0, Nat.zero_le _, rfl, rfl⟩
  case round =>
    obtain ⟨k, q, hk, rfl, rfl⟩ := hrel
    by_cases hlt : k < n
    · obtain ⟨x, b1, o1, b2, o2, rfl, rfl, hck1, hck2⟩ := HG.out k hlt
      have hlt' : (k : Int) < (n : Int) := by omega
      clear HG
      go_wp2
      go_quiet (fail)
      go_wp2
      go_roundw
      case rel => exact ⟨k + 1, q + nq, by omega, by go_num, by simp⟩
      case measure => simp [intOf]; omega
    · clear HG
      go_wp2
      go_ret
      exact ⟨rfl, q, rfl⟩
theorem Below.ofN (C : Nat) (w : World) (q : Nat) : Below C w (w.drewN q) := ⟨rfl, rfl, rfl, Nat.le_refl _, fun _ _ => rfl⟩
set_option maxHeartbeats 4000000 in
/-- spec.l7SameCode of two that read the same -/
theorem sameCode_same (c : List Pl.Sv) (a1 a2 : Option Addr) (c1 c2 : Nat) (w : World) (hl : c.length ≤ 1048576) (hk : ∀ s ∈ c, s.nums.length ≤ 1048576) (R1 : RdS w.heap.size w a1 c) (R2 : RdS w.heap.size w a2 c) :
    Calls Tryz.prog 18 #[.slice a1 c.length c1, .slice a2 c.length c2] w fun e w' => e = .returned (.bool true) ∧ ∃ q, w' = w.drewN q := by
  have HG : Hid (∀ k, k < c.length → ∃ s b1 o1 b2 o2, s ∈ c ∧ a1 = some ⟨b1, o1, none⟩ ∧ a2 = some ⟨b2, o2, none⟩ ∧ b1 < w.heap.size ∧ b2 < w.heap.size ∧ (∃ anx cnx, Stp w.heap.size w b1 (o1 + k * 7) s anx cnx) ∧ (∃ any cny, Stp w.heap.size w b2 (o2 + k * 7) s any cny)) := fun k hk => by
    rcases R1 with rfl | ⟨b1, o1, h1, rfl, hc1⟩
    · cases hk
    rcases R2 with rfl | ⟨b2, o2, h2, rfl, hc2⟩
    · cases hk
    · exact ⟨c[k], b1, o1, b2, o2, List.getElem_mem hk, rfl, rfl, h1, h2, hc1 k c[k] (List.getElem?_eq_getElem hk), hc2 k c[k] (List.getElem?_eq_getElem hk)⟩
  have HK := hideP hk
  clear R1 R2 hk
  generalize c.length = n at *
  go_enter Tryz.func18, Tryz.ntmps18
  go_wp2
  go_loopw [5] (fun i wr => ∃ k : Nat, k ≤ n ∧ i = .int .i64 k ∧ Hid (∃ q, wr = w.drewN q)) (fun i _ => n - (intOf i).toNat)
  case atStart => exact ⟨0, Nat.zero_le _, rfl, ⟨0, rfl⟩⟩
  case round =>
    rename World => wr
    obtain ⟨k, hk, rfl, HW⟩ := hrel
    have HB : Hid (Below w.heap.size w wr) := by obtain ⟨q, e⟩ := HW.out; rw [e]; exact Below.ofN _ _ _
    by_cases hlt : k < n
    · obtain ⟨s, b1, o1, b2, o2, hm, rfl, rfl, hb1, hb2, ⟨anx, cnx, g1⟩, ⟨any, cny, g2⟩⟩ := HG.out k hlt
      have g1 := (g1.keep hb1 HB.out).up HB.out.size
      have g2 := (g2.keep hb2 HB.out).up HB.out.size
      have K := hideP (fun n => l2Same_same s.nums anx any cnx cny (wr.drewN n) (HK.out s hm) (g1.rd.keep (Below.ofN _ _ _)) (g2.rd.keep (Below.ofN _ _ _)))
      have hE := fun W => (eq78 s.fn.k s.fn.a s.fn.b s.fn.k s.fn.a s.fn.b (Pl.ba s.fn.nm) (Pl.ba s.fn.nm) W)
      simp only [decide_true, Bool.and_true] at hE
      obtain ⟨u0, u1, u2, u3, u4, u5, u6, ur⟩ := g1
      obtain ⟨v0, v1, v2, v3, v4, v5, v6, vr⟩ := g2
      have hlt' : (k : Int) < (n : Int) := by omega
      clear HG HK hm ur vr
      generalize s.nums.length = sn at *
      generalize Pl.ba s.nm = nm at *
      generalize Pl.ba s.fn.nm = fnm at *
      generalize s.fn.k = fk at *
      generalize s.fn.a = fa at *
      generalize s.fn.b = fb at *
      generalize s.k = kk at *
      go_wp2
      go_quiet ((go_at_call 34; exact Calls.quiet_of (K.out _)))
      go_wp2
      go_roundw
      case rel => exact ⟨k + 1, by omega, by go_num, by obtain ⟨q, e⟩ := HW.out; exact ⟨q + nq, by rw [e]; simp⟩⟩
      case measure => simp [intOf]; omega
    · clear HG HK
      go_wp2
      go_ret
      exact ⟨rfl, HW.out⟩
end Go.Proofs.YthhfpcdbgndioaaGreatDoor
