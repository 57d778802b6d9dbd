import Derived.Test.YtljkolffjjhgeaaGreatDoorMem
import Derived.Laws.StructEq
namespace Go.Proofs.YtljkolffjjhgeaaGreatDoor
open Go.RowKit
set_option linter.unusedVariables false
set_option maxRecDepth 100000
theorem ba_iffL {s t : ByteArray} : s.toList = t.toList ↔ s = t := by rw [ByteArray.toList_eq, ByteArray.toList_eq]; exact (Pl.ba_iff s t).symm
/-- what == says of two functions -/
theorem eq78 (k1 k2 k3 k4 k5 k6 : Int) (s t : ByteArray) (w : World) : (Op.equalIn 10000 78 (.agg #[.int .i64 k1, .int .i64 k2, .int .i64 k3, .string s]) (.agg #[.int .i64 k4, .int .i64 k5, .int .i64 k6, .string t])).run Tryz.prog w = .ok (decide (k1 = k4) && decide (k2 = k5) && decide (k3 = k6) && decide (s = t)) w := by
  have u3 := Tryz.underlying3
  have a3 := Tryz.isAgg3
  have z3 := Tryz.sizeOf3
  have u9 := Tryz.underlying9
  have a9 := Tryz.isAgg9
  have z9 := Tryz.sizeOf9
  have hS : Tryz.prog.underlying 78 = some (.struct (Tryz.prog.fieldsOf 78)) := by kernel_rfl
  have hp : Tryz.prog.stoodInHeld 78 = false := by kernel_rfl
  rw [show (10000 : Nat) = 9999 + 1 from rfl, run_equalIn_agg w 9999 78 _ _ hS hp]
  simp only [Program.fieldsOf, Tryz.underlying78]
  go_simp
  by_cases h1 : k1 = k4 <;> by_cases h2 : k2 = k5 <;> by_cases h3 : k3 = k6 <;> by_cases h4 : s = t <;> simp [h1, h2, h3, h4, ba_iffL]
namespace Pl
def sb (l : Int) (n : Nat) : Int := if l < n then -1 else l - n
def wS (s : Sv) : Nat := s.nums.length + s.nm.length + s.fn.nm.length
def wC (c : List Sv) : Nat := c.length + (c.map wS).sum
def wG (g : Gv) : Nat := wC g.test + wC g.thn
def wGs (c : List Gv) : Nat := c.length + (c.map wG).sum
def wT (s : Tv) : Nat := s.nm.length + wC s.code + wGs s.gs
def wP (p : List Tv) : Nat := p.length + (p.map wT).sum
def okS (s : Sv) : Prop := s.nums.length ≤ 9223372036854775807 ∧ s.nm.length ≤ 9223372036854775807 ∧ s.fn.nm.length ≤ 9223372036854775807
def okC (c : List Sv) : Prop := c.length ≤ 9223372036854775807 ∧ ∀ s ∈ c, okS s
def okG (g : Gv) : Prop := okC g.test ∧ okC g.thn
def okGs (c : List Gv) : Prop := c.length ≤ 9223372036854775807 ∧ ∀ g ∈ c, okG g
def okT (s : Tv) : Prop := s.nm.length ≤ 9223372036854775807 ∧ okC s.code ∧ okGs s.gs
def okP' (p : List Tv) : Prop := p.length ≤ 9223372036854775807 ∧ ∀ s ∈ p, okT s
theorem sum_take_succ {α : Type} (f : α → Nat) {c : List α} {k : Nat} {s : α} (h : c[k]? = some s) : ((c.take (k + 1)).map f).sum = ((c.take k).map f).sum + f s := by
  rw [List.take_add_one, h]
  simp
theorem sum_take_le {α : Type} (f : α → Nat) (c : List α) (k : Nat) : ((c.take k).map f).sum ≤ (c.map f).sum := by
  have e := congrArg (fun l => (l.map f).sum) (List.take_append_drop k c)
  simp only [List.map_append, List.sum_append] at e
  omega
end Pl
/-- laws.szIntS -/
theorem szIntS_any (ao : Option Addr) (n cap : Nat) (l : Int) (w : World) (hn : n ≤ 9223372036854775807) (h0 : 0 ≤ l) (h1 : l ≤ 1048576) :
    Calls Tryz.prog 49 #[.slice ao n cap, .int .i64 l] w fun e w' => e = .returned (.int .i64 (Pl.sb l n)) ∧ w' = w := by
  by_cases g : l - (n : Int) < 0
  · have HR : Hid (Pl.sb l n = -1) := by show _ = _; unfold Pl.sb; rw [if_pos (by omega)]
    generalize Pl.sb l n = r at *
    go_enter Tryz.func49, Tryz.ntmps49
    go_wp2
    go_ret
    exact ⟨by rw [HR.out]; rfl, rfl⟩
  · have HR : Hid (Pl.sb l n = l - n) := by show _ = _; unfold Pl.sb; rw [if_neg (by omega)]
    generalize Pl.sb l n = r at *
    go_enter Tryz.func49, Tryz.ntmps49
    go_wp2
    go_ret
    exact ⟨by rw [HR.out]; rfl, rfl⟩
/-- laws.szFn -/
theorem szFn_any (k a b : Int) (nm : ByteArray) (l : Int) (w : World) (hn : nm.size ≤ 9223372036854775807) (h0 : 0 ≤ l) (h1 : l ≤ 1048576) :
    Calls Tryz.prog 50 #[.agg #[.int .i64 k, .int .i64 a, .int .i64 b, .string nm], .int .i64 l] w fun e w' => e = .returned (.int .i64 (Pl.sb l nm.size)) ∧ Below w.heap.size w w' := by
  have HB : Hid (∀ o, Below w.heap.size w (w.alloc o)) := fun o => (Below.refl _ _).alloc (Nat.le_refl _) _
  have HF : Hid (∀ n, nm.size = n → Pl.sb l nm.size = Pl.sb l n) := fun n h => by rw [h]
  generalize hz : nm.size = n at *
  by_cases g : l - (n : Int) < 0
  · have HR : Hid (Pl.sb l n = -1) := by show _ = _; unfold Pl.sb; rw [if_pos (by omega)]
    generalize Pl.sb l n = r at *
    go_enter Tryz.func50, Tryz.ntmps50
    go_wp2
    go_ret
    exact ⟨by rw [HR.out]; rfl, HB.out _⟩
  · have HR : Hid (Pl.sb l n = l - n) := by show _ = _; unfold Pl.sb; rw [if_neg (by omega)]
    generalize Pl.sb l n = r at *
    go_enter Tryz.func50, Tryz.ntmps50
    go_wp2
    go_ret
    exact ⟨by rw [HR.out]; rfl, HB.out _⟩
set_option maxHeartbeats 4000000 in
/-- laws.szStep -/
theorem szStep_any (s : Pl.Sv) (ao : Option Addr) (cap : Nat) (l : Int) (w : World) (hk : Pl.okS s) (h0 : 0 ≤ l) (h1 : l ≤ 1048576) :
    Calls Tryz.prog 30 #[.agg #[.int .i64 s.k, .slice ao s.nums.length cap, .string (Pl.ba s.nm), .int .i64 s.fn.k, .int .i64 s.fn.a, .int .i64 s.fn.b, .string (Pl.ba s.fn.nm)], .int .i64 l] w fun e w' => e = .returned (.int .i64 (Pl.sb l (Pl.wS s))) ∧ Below w.heap.size w w' := by
  obtain ⟨o1, o2, o3⟩ := hk
  have HB : Hid (∀ o, Below w.heap.size w (w.alloc o)) := fun o => (Below.refl _ _).alloc (Nat.le_refl _) _
  have K : Hid (∀ w', Calls Tryz.prog 49 #[.slice ao s.nums.length cap, .int .i64 l] w' fun e w2 => e = .returned (.int .i64 (Pl.sb l s.nums.length)) ∧ w2 = w') := fun w' => szIntS_any ao s.nums.length cap l w' o1 h0 h1
  have KF : Hid (∀ q w', 0 ≤ q → q ≤ 1048576 → Calls Tryz.prog 50 #[.agg #[.int .i64 s.fn.k, .int .i64 s.fn.a, .int .i64 s.fn.b, .string (Pl.ba s.fn.nm)], .int .i64 q] w' fun e w2 => e = .returned (.int .i64 (Pl.sb q s.fn.nm.length)) ∧ Below w'.heap.size w' w2) := fun q w' g0 g1 => szFn_any s.fn.k s.fn.a s.fn.b (Pl.ba s.fn.nm) q w' o3 g0 g1
  have HV : Hid (Pl.sb l (Pl.wS s) = if l < (s.nums.length + s.nm.length + s.fn.nm.length : Nat) then -1 else l - (s.nums.length + s.nm.length + s.fn.nm.length : Nat)) := rfl
  have hs : (Pl.ba s.nm).size = s.nm.length := rfl
  generalize Pl.sb l (Pl.wS s) = r at *
  generalize s.nums.length = n1 at *
  generalize s.nm.length = n2 at *
  generalize s.fn.nm.length = n3 at *
  generalize Pl.ba s.nm = nm at *
  generalize Pl.ba s.fn.nm = fnm at *
  generalize s.k = kk at *
  generalize s.fn.k = fk at *
  generalize s.fn.a = fa at *
  generalize s.fn.b = fb at *
  by_cases g1 : l < n1
  · have HR := hideP (show r = -1 by rw [HV.out, if_pos (by omega)])
    have E : Hid (Pl.sb l n1 = -1) := by show _ = _; unfold Pl.sb; rw [if_pos g1]
    rw [E.out] at K
    go_enter Tryz.func30, Tryz.ntmps30
    go_wp2_with (go_at_call 49; refine (K.out _).mono ?_; rintro e w2 ⟨rfl, rfl⟩)
    go_ret
    exact ⟨by rw [HR.out]; rfl, HB.out _⟩
  · have E : Hid (Pl.sb l n1 = l - n1) := by show _ = _; unfold Pl.sb; rw [if_neg g1]
    rw [E.out] at K
    by_cases g2 : l - (n1 : Int) - (n2 : Int) < 0
    · have HR := hideP (show r = -1 by rw [HV.out, if_pos (by omega)])
      go_enter Tryz.func30, Tryz.ntmps30
      go_wp2_with (go_at_call 49; refine (K.out _).mono ?_; rintro e w2 ⟨rfl, rfl⟩)
      go_ret
      exact ⟨by rw [HR.out]; rfl, HB.out _⟩
    · have K3 := hideP (fun w' => KF.out (l - n1 - n2) w' (by omega) (by omega))
      by_cases g3 : l - (n1 : Int) - (n2 : Int) < n3
      · have HR := hideP (show r = -1 by rw [HV.out, if_pos (by omega)])
        have E3 : Hid (Pl.sb (l - n1 - n2) n3 = -1) := by show _ = _; unfold Pl.sb; rw [if_pos g3]
        rw [E3.out] at K3
        go_enter Tryz.func30, Tryz.ntmps30
        go_wp2_with (first | (go_at_call 49; refine (K.out _).mono ?_; rintro e w2 ⟨rfl, rfl⟩) | (go_at_call 50; refine (K3.out _).mono ?_; rintro e w3 ⟨rfl, hb3⟩))
        go_ret
        exact ⟨by rw [HR.out]; rfl, (HB.out _).trans (hb3.mono (by simp))⟩
      · have HR := hideP (show r = l - n1 - n2 - n3 by rw [HV.out, if_neg (by omega)]; omega)
        have E3 : Hid (Pl.sb (l - n1 - n2) n3 = l - n1 - n2 - n3) := by show _ = _; unfold Pl.sb; rw [if_neg g3]
        rw [E3.out] at K3
        have g4 : ¬ (l - (n1 : Int) - n2 - n3 < 0) := by omega
        go_enter Tryz.func30, Tryz.ntmps30
        go_wp2_with (first | (go_at_call 49; refine (K.out _).mono ?_; rintro e w2 ⟨rfl, rfl⟩) | (go_at_call 50; refine (K3.out _).mono ?_; rintro e w3 ⟨rfl, hb3⟩))
        go_ret
        exact ⟨by rw [HR.out]; rfl, (HB.out _).trans (hb3.mono (by simp))⟩
set_option maxHeartbeats 4000000 in
/-- laws.szStepS -/
theorem szStepS_any (c : List Pl.Sv) (ao : Option Addr) (cap : Nat) (l : Int) (w : World) (hk : Pl.okC c) (h0 : 0 ≤ l) (h1 : l ≤ 1048576) (hR : RdS w.heap.size w ao c) :
    Calls Tryz.prog 15 #[.slice ao c.length cap, .int .i64 l] w fun e w' => e = .returned (.int .i64 (Pl.sb l (Pl.wC c))) ∧ Below w.heap.size w w' := by
  obtain ⟨o1, o2⟩ := hk
  have HG : Hid (∀ k, k < c.length → ∃ s b off, c[k]? = some s ∧ s ∈ c ∧ ao = some ⟨b, off, none⟩ ∧ b < w.heap.size ∧ (∃ an cn, ∀ w', Below w.heap.size w w' → Stp w.heap.size w' b (off + k * 7) s an cn) ∧ ((c.take (k + 1)).map Pl.wS).sum = ((c.take k).map Pl.wS).sum + Pl.wS s ∧ ((c.take (k + 1)).map Pl.wS).sum ≤ (c.map Pl.wS).sum) := fun k hk => by
    rcases hR with rfl | ⟨b, off, hb, rfl, hc⟩
    · cases hk
    · obtain ⟨an, cn, h⟩ := hc k c[k] (List.getElem?_eq_getElem hk)
      exact ⟨c[k], b, off, List.getElem?_eq_getElem hk, List.getElem_mem hk, rfl, hb, ⟨an, cn, fun w' hw => h.keep hb hw⟩, Pl.sum_take_succ _ (List.getElem?_eq_getElem hk), Pl.sum_take_le _ _ _⟩
  have HO : Hid (∀ s ∈ c, Pl.okS s) := o2
  have HV : Hid (Pl.sb l (Pl.wC c) = if l < (c.length + (c.map Pl.wS).sum : Nat) then -1 else l - (c.length + (c.map Pl.wS).sum : Nat)) := rfl
  have HE : Hid (((c.take c.length).map Pl.wS).sum = (c.map Pl.wS).sum) := by show _ = _; rw [List.take_length]
  have HZ : Hid (((c.take 0).map Pl.wS).sum = 0) := rfl
  clear hR o2
  generalize Pl.sb l (Pl.wC c) = r at *
  generalize hT : (c.map Pl.wS).sum = T at *
  clear hT
  generalize hL : c.length = L at *
  clear hL
  by_cases g : l - (L : Int) < 0
  · have HR := hideP (show r = -1 by rw [HV.out, if_pos (by omega)])
    go_enter Tryz.func15, Tryz.ntmps15
    go_wp2
    go_ret
    exact ⟨by rw [HR.out]; rfl, Below.refl _ _⟩
  · go_enter Tryz.func15, Tryz.ntmps15
    go_wp2
    go_loopw [1, 5] (fun u v wr => ∃ (k : Nat) (q : Int), k ≤ L ∧ v = .int .i64 k ∧ u = .int .i64 q ∧ 0 ≤ q ∧ q ≤ 1048576 ∧ Hid (q = l - L - (((c.take k).map Pl.wS).sum : Nat)) ∧ Hid (Below w.heap.size w wr)) (fun _ v _ => L - (intOf v).toNat)
    case atStart => exact ⟨0, _, Nat.zero_le _, rfl, rfl, by omega, by omega, by show _ = _; rw [HZ.out]; simp, Below.refl _ _⟩
    case round =>
      obtain ⟨k, q, hk, rfl, rfl, hq0, hq1, hq, BB⟩ := hrel
      by_cases hlt : k < L
      · obtain ⟨s, b, off, hs, hm, rfl, hb, ⟨an, cn, hst⟩, hsum, hle⟩ := HG.out k hlt
        obtain ⟨c0, c1, c2, c3, c4, c5, c6, crd⟩ := hst _ BB.out
        have K := hideP (szStep_any s an cn q wr (HO.out s hm) hq0 hq1)
        clear crd hst
        generalize Pl.ba s.nm = nm at *
        generalize Pl.ba s.fn.nm = fnm at *
        generalize s.fn.k = fk at *
        generalize s.fn.a = fa at *
        generalize s.fn.b = fb at *
        generalize s.k = kk at *
        generalize s.nums.length = sn at *
        have HSM := hideP hsum
        have HQ := hideP (show q - Pl.wS s = l - L - (((c.take (k + 1)).map Pl.wS).sum : Nat) by rw [HSM.out, hq.out]; omega)
        have HLE := hideP (show (((c.take (k + 1)).map Pl.wS).sum) ≤ T from hle)
        clear HG HO HE HZ hs hm hsum hle
        by_cases g1 : q < Pl.wS s
        · have HR := hideP (show r = -1 by
            have := HLE.out
            have := HQ.out
            rw [HV.out, if_pos (by omega)])
          have E : Hid (Pl.sb q (Pl.wS s) = -1) := by show _ = _; unfold Pl.sb; rw [if_pos g1]
          rw [E.out] at K
          clear g1 HQ
          generalize Pl.wS s = ws at *
          go_wp2_with (go_at_call 30; refine K.out.mono ?_; rintro e w2 ⟨rfl, hb2⟩)
          go_ret
          exact ⟨by rw [HR.out]; rfl, BB.out.trans (hb2.mono BB.out.size)⟩
        · have E : Hid (Pl.sb q (Pl.wS s) = q - Pl.wS s) := by show _ = _; unfold Pl.sb; rw [if_neg g1]
          rw [E.out] at K
          generalize Pl.wS s = ws at *
          have g2 : ¬ (q - (ws : Int) < 0) := by omega
          go_wp2_with (go_at_call 30; refine K.out.mono ?_; rintro e w2 ⟨rfl, hb2⟩)
          go_roundw
          case rel => exact ⟨k + 1, _, by omega, by go_num, rfl, by omega, by omega, HQ, BB.out.trans (hb2.mono BB.out.size)⟩
          case measure => simp [intOf]; omega
      · obtain rfl : k = L := by omega
        have HR := hideP (show r = q by
          have := hq.out
          rw [HE.out] at this
          rw [HV.out, if_neg (by omega)]
          omega)
        clear HG HO HE HZ
        go_wp2
        go_ret
        exact ⟨by rw [HR.out]; rfl, BB.out⟩
end Go.Proofs.YtljkolffjjhgeaaGreatDoor
