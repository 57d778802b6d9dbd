import Derived.Test.YtbmkbplgncoapaaDoorO3
import Derived.Test.YtbmkbplgncoapaaDoorNt
namespace Go.Proofs.YtbmkbplgncoapaaDoor
open Go.RowKit Go.Sort
set_option linter.unusedVariables false

namespace Pl
/-- a number within a budget -/
def bf (x : Int) : Bool := decide (0 ≤ x) && decide (x ≤ 100000)
/-- an outcome that is right -/
def oB (o : Ot) : Bool := decide (1 ≤ o.k) && decide (o.k ≤ 4) && bf o.c && bf o.fu && bf o.ce && (decide (¬ o.k = 1) || okB o.sh o.da)
def osAll (os : List Ot) : Bool := os.all oB
def osB (os : List Ot) : Bool := decide (os.length ≤ 20) && osAll os
theorem osAll_snoc {os : List Ot} {k : Nat} {o : Ot} (h : os[k]? = some o) : osAll (os.take (k + 1)) = (osAll (os.take k) && oB o) := by
  unfold osAll
  rw [List.take_add_one, h, List.all_append]
  simp
theorem osAll_false {os : List Ot} {k : Nat} {o : Ot} (h : os[k]? = some o) (hf : oB o = false) : osAll os = false := by
  cases e : osAll os
  · rfl
  · unfold osAll at e
    rw [List.all_eq_true] at e
    rw [e _ (List.mem_of_getElem? h)] at hf; cases hf
theorem osAll_at {os : List Ot} (h : osAll os = true) {k : Nat} {o : Ot} (hk : os[k]? = some o) : oB o = true := by
  unfold osAll at h
  rw [List.all_eq_true] at h
  exact h _ (List.mem_of_getElem? hk)
theorem osB_long {os : List Ot} (h : 20 < os.length) : osB os = false := by unfold osB; rw [decide_eq_false (by omega)]; rfl
theorem osB_short {os : List Ot} (h : ¬ 20 < os.length) : osB os = osAll os := by unfold osB; rw [decide_eq_true (by omega)]; rfl
/-- the last word of an outcome's line -/
def szL (k : Int) (da : List Int) : List UInt8 := if k = 1 then Lib.itoa da.length else [45]
def szW (k : Int) (da : List Int) : ByteArray := ⟨(szL k da).toArray⟩
end Pl

/-- impl.budgetFits -/
theorem budgetFits_any (x : Int) (w : World) : Calls Tryd.prog 118 #[.int .i64 x] w fun e w' => e = .returned (.bool (Pl.bf x)) ∧ w' = w := by
  by_cases h1 : 0 ≤ x
  · by_cases h2 : x ≤ 100000
    · have HR : Hid (Pl.bf x = true) := by show _ = _; simp [Pl.bf, h1, h2]
      go_enter Tryd.func118, Tryd.ntmps118
      go_wp2_with fail
      go_ret
      exact ⟨ret_bool HR.out.symm, rfl⟩
    · have HR : Hid (Pl.bf x = false) := by show _ = _; simp [Pl.bf, h2]
      go_enter Tryd.func118, Tryd.ntmps118
      go_wp2_with fail
      go_ret
      exact ⟨ret_bool HR.out.symm, rfl⟩
  · have HR : Hid (Pl.bf x = false) := by show _ = _; simp [Pl.bf, h1]
    go_enter Tryd.func118, Tryd.ntmps118
    go_wp2_with fail
    go_ret
    exact ⟨ret_bool HR.out.symm, rfl⟩

set_option maxRecDepth 100000 in
set_option maxHeartbeats 2000000 in
/-- impl.outcomeOk -/
theorem outcomeOk_any (k c fu ce : Int) (u0 u1 : Value) (sh da : List Int) (w : World) (l0 : sh.length ≤ 1048576) (l1 : da.length ≤ 1048576) (h0 : Rd w.heap.size w u0 sh) (h1 : Rd w.heap.size w u1 da) :
    Calls Tryd.prog 105 #[.agg #[.int .i64 k, .int .i64 c, u0, u1, .int .i64 fu, .int .i64 ce]] w fun e w' => e = .returned (.bool (Pl.oB ⟨k, c, sh, da, fu, ce⟩)) ∧ Below w.heap.size w w' := by
  have A : Hid (∀ o, Below w.heap.size w (w.alloc o)) := fun o => (Below.refl _ _).alloc (Nat.le_refl _) _
  have KA : Hid (∀ W, Below w.heap.size w W → Calls Tryd.prog 45 #[.agg #[u0, u1]] W fun e w' => e = .returned (.bool (Pl.okB sh da)) ∧ Below W.heap.size W w') := fun W hW => implOk_any u0 u1 sh da W l0 l1 ((h0.keep hW).up hW.size) ((h1.keep hW).up hW.size)
  have HR : Hid (Pl.oB ⟨k, c, sh, da, fu, ce⟩ = (decide (1 ≤ k) && decide (k ≤ 4) && Pl.bf c && Pl.bf fu && Pl.bf ce && (decide (¬ k = 1) || Pl.okB sh da))) := rfl
  have KC := hideP (budgetFits_any c)
  have KF := hideP (budgetFits_any fu)
  have KE := hideP (budgetFits_any ce)
  obtain ⟨r, hr⟩ : ∃ r, Pl.oB ⟨k, c, sh, da, fu, ce⟩ = r := ⟨_, rfl⟩
  rw [hr] at HR ⊢
  clear h0 h1 hr
  by_cases k1 : k < 1
  · have HF : Hid (r = false) := by show _ = _; rw [HR.out, decide_eq_false (by omega : ¬ 1 ≤ k)]; rfl
    rw [HF.out]
    clear HR
    go_enter Tryd.func105, Tryd.ntmps105
    go_wp2_with fail
    go_ret
    exact ⟨rfl, A.out _⟩
  by_cases k4 : 4 < k
  · have HF : Hid (r = false) := by show _ = _; rw [HR.out, decide_eq_false (by omega : ¬ k ≤ 4), Bool.and_false]; rfl
    rw [HF.out]
    clear HR
    go_enter Tryd.func105, Tryd.ntmps105
    go_wp2_with fail
    go_ret
    exact ⟨rfl, A.out _⟩
  rw [decide_eq_true (by omega : 1 ≤ k), decide_eq_true (by omega : k ≤ 4), Bool.true_and, Bool.true_and] at HR
  cases hc : Pl.bf c with
  | false =>
    have HF : Hid (r = false) := by show _ = _; rw [HR.out, hc]; rfl
    rw [HF.out]
    rw [hc] at KC
    clear HR hc
    go_enter Tryd.func105, Tryd.ntmps105
    go_wp2_with fail
    refine (KC.out _).mono ?_
    rintro e w1 ⟨rfl, rfl⟩
    go_wp2_with fail
    go_ret
    exact ⟨rfl, A.out _⟩
  | true =>
    rw [hc] at KC
    rw [hc, Bool.true_and] at HR
    cases hf : Pl.bf fu with
    | false =>
      have HF : Hid (r = false) := by show _ = _; rw [HR.out, hf]; rfl
      rw [HF.out]
      rw [hf] at KF
      clear HR hc hf
      go_enter Tryd.func105, Tryd.ntmps105
      go_wp2_with fail
      refine (KC.out _).mono ?_
      rintro e w1 ⟨rfl, rfl⟩
      go_wp2_with fail
      refine (KF.out _).mono ?_
      rintro e w1 ⟨rfl, rfl⟩
      go_wp2_with fail
      go_ret
      exact ⟨rfl, A.out _⟩
    | true =>
      rw [hf] at KF
      rw [hf, Bool.true_and] at HR
      cases he : Pl.bf ce with
      | false =>
        have HF : Hid (r = false) := by show _ = _; rw [HR.out, he]; rfl
        rw [HF.out]
        rw [he] at KE
        clear HR hc hf he
        go_enter Tryd.func105, Tryd.ntmps105
        go_wp2_with fail
        refine (KC.out _).mono ?_
        rintro e w1 ⟨rfl, rfl⟩
        go_wp2_with fail
        refine (KF.out _).mono ?_
        rintro e w1 ⟨rfl, rfl⟩
        go_wp2_with fail
        refine (KE.out _).mono ?_
        rintro e w1 ⟨rfl, rfl⟩
        go_wp2_with fail
        go_ret
        exact ⟨rfl, A.out _⟩
      | true =>
        rw [he] at KE
        rw [he, Bool.true_and] at HR
        by_cases hk : k = 1
        · have HF : Hid (r = Pl.okB sh da) := by show _ = _; rw [HR.out, decide_eq_false (by omega), Bool.false_or]
          rw [HF.out]
          have hk' : (k != 1) = false := by simp [hk]
          clear HR hc hf he hk
          go_enter Tryd.func105, Tryd.ntmps105
          go_wp2_with fail
          refine (KC.out _).mono ?_
          rintro e w1 ⟨rfl, rfl⟩
          go_wp2_with fail
          refine (KF.out _).mono ?_
          rintro e w1 ⟨rfl, rfl⟩
          go_wp2_with fail
          refine (KE.out _).mono ?_
          rintro e w1 ⟨rfl, rfl⟩
          go_wp2_with fail
          refine (KA.out _ (A.out _)).mono ?_
          rintro e w1 ⟨rfl, hb1⟩
          have B1 := hideP ((A.out _).trans (hb1.mono (A.out _).size))
          clear hb1
          go_wp2_with fail
          go_ret
          exact ⟨rfl, B1.out⟩
        · have HF : Hid (r = true) := by show _ = _; rw [HR.out, decide_eq_true hk]; rfl
          rw [HF.out]
          have hk' : (k != 1) = true := by simp [hk]
          clear HR hc hf he hk
          go_enter Tryd.func105, Tryd.ntmps105
          go_wp2_with fail
          refine (KC.out _).mono ?_
          rintro e w1 ⟨rfl, rfl⟩
          go_wp2_with fail
          refine (KF.out _).mono ?_
          rintro e w1 ⟨rfl, rfl⟩
          go_wp2_with fail
          refine (KE.out _).mono ?_
          rintro e w1 ⟨rfl, rfl⟩
          go_wp2_with fail
          go_ret
          exact ⟨rfl, A.out _⟩

/-- impl.sizeWord -/
theorem sizeWord_any (k c fu ce : Int) (u0 u1 : Value) (B : Nat) (w0 : World) (da : List Int) (w : World) (l1 : da.length ≤ 1048576) (h1 : Rd B w0 u1 da) (ht : Tab w) :
    Calls Tryd.prog 76 #[.agg #[.int .i64 k, .int .i64 c, u0, u1, .int .i64 fu, .int .i64 ce]] w fun e w' => e = .returned (.string (Pl.szW k da)) ∧ Below w.heap.size w w' := by
  have A : Hid (∀ o, Below w.heap.size w (w.alloc o)) := fun o => (Below.refl _ _).alloc (Nat.le_refl _) _
  have HT := hideP ht
  obtain ⟨a1, d1, rfl⟩ := h1.form
  clear ht
  by_cases hk : k = 1
  · have HF : Hid (Pl.szW k da = wrd (da.length : Int)) := by show _ = _; unfold Pl.szW Pl.szL wrd; rw [if_pos hk]
    rw [HF.out]
    have hk' : (k == 1) = true := by simp [hk]
    have KI := hideP (fun W => itoa_any (da.length : Int) W (by omega) (by omega))
    clear hk
    generalize da.length = n at *
    go_enter Tryd.func76, Tryd.ntmps76
    go_wp2_with fail
    refine (KI.out _ (HT.out.keep (A.out _))).mono ?_
    rintro e w1 ⟨rfl, hb1⟩
    have B1 := hideP ((A.out _).trans (hb1.mono (A.out _).size))
    clear hb1
    go_wp2_with fail
    go_ret
    exact ⟨rfl, B1.out⟩
  · have HF : Hid (Pl.szW k da = ⟨#[45]⟩) := by show _ = _; unfold Pl.szW Pl.szL; rw [if_neg hk]
    rw [HF.out]
    have hk' : (k == 1) = false := by simp [hk]
    clear hk
    generalize da.length = n at *
    go_enter Tryd.func76, Tryd.ntmps76
    go_wp2_with fail
    go_ret
    exact ⟨rfl, A.out _⟩

set_option maxRecDepth 100000 in
set_option maxHeartbeats 4000000 in
/-- impl.outcomesOk -/
theorem outcomesOk_core (b off cap : Nat) (os : List Pl.Ot) (w : World) (hl : os.length ≤ 1048576) (hbd : ∀ o ∈ os, o.bd) (hb : b < w.heap.size)
    (hc : ∀ i o, os[i]? = some o → ∃ v0 v1, OtAt w.heap.size w b (off + i * 6) o v0 v1) :
    Calls Tryd.prog 75 #[.slice (some ⟨b, off, none⟩) os.length cap] w fun e w' => e = .returned (.bool (Pl.osB os)) ∧ Below w.heap.size w w' := by
  have HC := hideP hc
  have HB := hideP hbd
  clear hc hbd
  obtain ⟨n, hn⟩ : ∃ n, os.length = n := ⟨_, rfl⟩
  have Hn := hideP hn
  have BR := hideP (Below.refl w.heap.size w)
  by_cases hlong : 20 < os.length
  · have HV := hideP (Pl.osB_long hlong)
    rw [hn] at hlong hl ⊢
    have hlong' : (20 : Int) < (n : Int) := by omega
    clear hn HC
    go_enter Tryd.func75, Tryd.ntmps75
    go_wp2_with fail
    go_ret
    exact ⟨ret_bool HV.out.symm, BR.out⟩
  · have HV := hideP (Pl.osB_short hlong)
    rw [hn] at hlong hl ⊢
    have hlong' : ¬ (20 : Int) < (n : Int) := by omega
    clear hn
    go_enter Tryd.func75, Tryd.ntmps75
    go_wp2_with fail
    go_loopw [10, 4] (fun i _ wr => ∃ k : Nat, k ≤ n ∧ i = .int .i64 (k : Int) ∧ Hid (Pl.osAll (os.take k) = true) ∧ Hid (Below w.heap.size w wr)) (fun i _ _ => n - (intOf i).toNat)
    case atStart => exact ⟨0, Nat.zero_le _, rfl, rfl, BR⟩
    case round =>
      obtain ⟨k, hk, rfl, hall, BB⟩ := hrel
      by_cases hlt : k < n
      · have hlt' : (k : Int) < (n : Int) := by omega
        obtain ⟨o, ho⟩ : ∃ o, os[k]? = some o := ⟨_, List.getElem?_eq_getElem (by rw [Hn.out]; exact hlt)⟩
        obtain ⟨v0, v1, hat⟩ := HC.out k o ho
        have hbo := HB.out o (List.mem_of_getElem? ho)
        obtain ⟨c0, c1, c2, c3, c4, c5, _, _⟩ := hat.keep BB.out hb
        have HS := hideP (Pl.osAll_snoc ho)
        have HF := hideP (fun h => Pl.osAll_false ho h)
        have AL : Hid (∀ o, Below w.heap.size w (wr.alloc o)) := fun o => BB.out.trans (((Below.refl _ _).alloc (Nat.le_refl _) _).mono BB.out.size)
        have KO : Hid (∀ W, Below w.heap.size w W → Calls Tryd.prog 105 #[.agg #[.int .i64 o.k, .int .i64 o.c, v0, v1, .int .i64 o.fu, .int .i64 o.ce]] W fun e w' => e = .returned (.bool (Pl.oB o)) ∧ Below W.heap.size W w') := fun W hW =>
          outcomeOk_any o.k o.c o.fu o.ce v0 v1 o.sh o.da W hbo.1 hbo.2 ((hat.r0.keep hW).up hW.size) ((hat.r1.keep hW).up hW.size)
        have f0 : ∃ ao cp, v0 = .slice ao o.sh.length cp := hat.r0.form
        have f1 : ∃ ao cp, v1 = .slice ao o.da.length cp := hat.r1.form
        obtain ⟨a0, p0, rfl⟩ := f0
        obtain ⟨a1, p1, rfl⟩ := f1
        clear hat hbo ho
        go_wp2_with fail
        refine (KO.out _ (AL.out _)).mono ?_
        rintro e w2 ⟨rfl, hb2⟩
        have B2 := hideP ((AL.out _).trans (hb2.mono (AL.out _).size))
        clear hb2 c0 c1 c2 c3 c4 c5 KO AL
        cases hv : Pl.oB o
        · have HX := hideP (HF.out hv)
          clear hv
          go_wp2_with fail
          go_ret
          exact ⟨ret_bool (by rw [HV.out, HX.out]), B2.out⟩
        · have HX : Hid (Pl.osAll (os.take (k + 1)) = true) := by show _ = _; rw [HS.out, hall.out, hv]; rfl
          clear hv
          go_wp2_with fail
          go_roundw
          case rel => exact ⟨k + 1, by omega, by go_num, HX, B2⟩
          case measure => simp [intOf]; omega
      · have hlt' : ¬ (k : Int) < (n : Int) := by omega
        have HA : Hid (Pl.osAll os = true) := by
          have := hall.out
          rw [List.take_of_length_le (by rw [Hn.out]; omega)] at this
          exact this
        go_wp2_with fail
        go_ret
        exact ⟨ret_bool (by rw [HV.out, HA.out]), BB.out⟩

theorem outcomesOk_nil (ao : Option Addr) (cap : Nat) (w : World) : Calls Tryd.prog 75 #[.slice ao 0 cap] w fun e w' => e = .returned (.bool true) ∧ w' = w := by
  go_enter Tryd.func75, Tryd.ntmps75
  go_wp2_with fail
  go_loop [10, 4] (fun i _ => i = .int .i64 0) (fun _ _ => 0)
  case atStart => rfl
  case round =>
    obtain rfl := hrel
    go_wp2_with fail
    go_ret
    exact ⟨rfl, rfl⟩

theorem outcomesOk_any (v : Value) (os : List Pl.Ot) (w : World) (hl : os.length ≤ 1048576) (hbd : ∀ o ∈ os, o.bd) (h : RdO w.heap.size w v os) :
    Calls Tryd.prog 75 #[v] w fun e w' => e = .returned (.bool (Pl.osB os)) ∧ Below w.heap.size w w' := by
  obtain ⟨ao, cap, rfl, h⟩ := h
  by_cases h0 : os.length = 0
  · obtain rfl := List.length_eq_zero_iff.1 h0
    refine (outcomesOk_nil ao cap w).mono ?_
    rintro e w' ⟨rfl, rfl⟩
    exact ⟨rfl, Below.refl _ _⟩
  · rcases h with h | ⟨b, off, hb, rfl, hc⟩
    · exact absurd h h0
    · exact outcomesOk_core b off cap os w hl hbd hb hc

end Go.Proofs.YtbmkbplgncoapaaDoor
