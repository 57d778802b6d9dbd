import Derived.Test.YtbmkbplgncoapaaDoorWd
namespace Go.Proofs.YtbmkbplgncoapaaDoor
open Go.RowKit Go.Sort
set_option linter.unusedVariables false

namespace Pl
def lineL (i : Nat) (v : Vt) : List UInt8 := [116, 101, 115, 116, 32] ++ Lib.itoa ((i : Int) + 1) ++ [32] ++ wordL v.1 v.2 ++ [10]
/-- the first k lines of verdicts -/
def lnsK (vs : List Vt) : Nat → List UInt8
  | 0 => []
  | k + 1 => lnsK vs k ++ lineL k (at2 vs k)
/-- how many of the first k passed -/
def passK (vs : List Vt) : Nat → Nat
  | 0 => 0
  | k + 1 => passK vs k + (if (at2 vs k).1 = 1 then 1 else 0)
def headL (id : List UInt8) : List UInt8 := [115, 116, 117, 100, 101, 110, 116, 32] ++ id ++ [10]
def footL (p n : Nat) : List UInt8 := [112, 97, 115, 115, 101, 100, 32] ++ Lib.itoa p ++ [32, 111, 102, 32] ++ Lib.itoa n ++ [10]
def repL (id : List UInt8) (vs : List Vt) : List UInt8 := headL id ++ lnsK vs vs.length ++ footL (passK vs vs.length) vs.length
/-- a report -/
def rep (id : ByteArray) (vs : List Vt) : ByteArray := if (idB id && vsB vs) = true then ⟨(repL id.data.toList vs).toArray⟩ else ByteArray.empty
theorem passK_le (vs : List Vt) (k : Nat) : passK vs k ≤ k := by
  induction k with
  | zero => exact Nat.le_refl _
  | succ k ih => rw [passK]; split <;> omega
theorem vsAll_at {vs : List Vt} (h : vsAll vs = true) {k : Nat} (hk : k < vs.length) : vB (at2 vs k).1 (at2 vs k).2 = true := by
  unfold vsAll at h
  rw [List.all_eq_true] at h
  exact h _ (at_mem hk)
theorem itoa_short {n : Nat} (h : n ≤ 1000000) : (Lib.itoa (n : Int)).length ≤ 21 := Lib.itoa_length_le _ (by omega) (by omega)
theorem lns_len {vs : List Vt} (h : vsAll vs = true) : ∀ k, k ≤ vs.length → vs.length ≤ 20 → (lnsK vs k).length ≤ 60 * k := by
  intro k
  induction k with
  | zero => intro _ _; simp [lnsK]
  | succ k ih =>
    intro hk hn
    have h1 := ih (by omega) hn
    have h2 := word_len (vsAll_at h (show k < vs.length by omega))
    have h3 := itoa_short (n := k + 1) (by omega)
    have e : ((k + 1 : Nat) : Int) = (k : Int) + 1 := by omega
    rw [e] at h3
    rw [lnsK, List.length_append]
    unfold lineL
    simp only [List.length_append, List.length_cons, List.length_nil]
    omega
end Pl

/-- spec.l2Bool -/
theorem l2Bool_any (b : Bool) (w : World) : Calls Tryd.prog 58 #[.bool b] w fun e w' => e = .returned (.int .i64 (if b then 1 else 0)) ∧ w' = w := by
  cases b
  all_goals
    go_enter Tryd.func58, Tryd.ntmps58
    go_wp2_with fail
    go_ret
    exact ⟨rfl, rfl⟩

theorem app_line {s : ByteArray} {A : List UInt8} {vs : List Pl.Vt} {k : Nat} (h : s.data.toList = A ++ Pl.lnsK vs k) :
    (s ++ ⟨#[116, 101, 115, 116, 32]⟩ ++ wrd ((k : Int) + 1) ++ ⟨#[32]⟩ ++ Pl.word (Pl.at2 vs k).1 (Pl.at2 vs k).2 ++ ⟨#[10]⟩).data.toList = A ++ Pl.lnsK vs (k + 1) := by
  rw [Pl.lnsK]
  unfold Pl.lineL Pl.word wrd
  simp [h]

theorem rep_no {id : ByteArray} {vs : List Pl.Vt} (h : (Pl.idB id && Pl.vsB vs) = false) : Pl.rep id vs = ByteArray.empty := by unfold Pl.rep; rw [if_neg (by rw [h]; decide)]

set_option maxRecDepth 100000 in
set_option maxHeartbeats 8000000 in
/-- spec.Report -/
theorem specReport_any (id : ByteArray) (v : Value) (vs : List Pl.Vt) (w : World) (hid : id.size ≤ 1048576) (hl : vs.length ≤ 1048576) (h : RdV w.heap.size w v vs) :
    Calls Tryd.prog 20 #[.string id, v] w fun e w' => e = .returned (.tuple #[.string (Pl.rep id vs), .bool (Pl.idB id && Pl.vsB vs)]) ∧ Below w.heap.size w w' := by
  have KV : Hid (∀ W, Below w.heap.size w W → Calls Tryd.prog 55 #[v] W fun e w' => e = .returned (.bool (Pl.vsB vs)) ∧ Below W.heap.size W w') := fun W hW => l6VerdictsOk_any v vs W hl ((h.keep hW).up hW.size)
  have KD := hideP (l6IdOk_any id w (by omega))
  have BR := hideP (Below.refl w.heap.size w)
  obtain ⟨ao, cap, rfl, hr⟩ := h
  cases hi : Pl.idB id with
  | false =>
    rw [hi] at KD
    have HN := hideP (rep_no (id := id) (vs := vs) (by rw [hi]; rfl))
    rw [HN.out]
    clear hi hr KV
    go_enter Tryd.func20, Tryd.ntmps20
    go_wp2_with fail
    refine KD.out.mono ?_
    rintro e w' ⟨rfl, rfl⟩
    go_wp2_with fail
    go_ret2
    exact ⟨rfl, BR.out⟩
  | true =>
    cases hv : Pl.vsB vs with
    | false =>
      rw [hi] at KD
      rw [hv] at KV
      have HN := hideP (rep_no (id := id) (vs := vs) (by rw [hi, hv]; rfl))
      rw [HN.out]
      clear hi hv hr
      go_enter Tryd.func20, Tryd.ntmps20
      go_wp2_with fail
      refine KD.out.mono ?_
      rintro e w' ⟨rfl, rfl⟩
      go_wp2_with fail
      refine (KV.out _ BR.out).mono ?_
      rintro e w1 ⟨rfl, hb1⟩
      have B1 := hideP hb1
      clear hb1
      go_wp2_with fail
      go_ret2
      exact ⟨rfl, B1.out⟩
    | true =>
      rw [hi] at KD
      rw [hv] at KV
      have hsz : id.size ≤ 20 := by
        unfold Pl.idB at hi
        rw [Bool.and_eq_true] at hi
        exact (of_decide_eq_true hi.1).2
      have hn20 : vs.length ≤ 20 := by
        unfold Pl.vsB at hv
        rw [Bool.and_eq_true] at hv
        exact of_decide_eq_true hv.1
      have HALL : Hid (Pl.vsAll vs = true) := by
        unfold Pl.vsB at hv
        rw [Bool.and_eq_true] at hv
        exact hv.2
      have HREP : Hid (Pl.rep id vs = ⟨(Pl.repL id.data.toList vs).toArray⟩) := by show _ = _; unfold Pl.rep; rw [if_pos (by rw [hi, hv]; rfl)]
      have HR := hideP hr
      have h0 : Hid ((⟨#[115, 116, 117, 100, 101, 110, 116, 32]⟩ ++ id ++ ⟨#[10]⟩ : ByteArray).data.toList = Pl.headL id.data.toList ++ Pl.lnsK vs 0) := by show _ = _; simp [Pl.headL, Pl.lnsK]
      have z0 : (⟨#[115, 116, 117, 100, 101, 110, 116, 32]⟩ ++ id ++ ⟨#[10]⟩ : ByteArray).size ≤ 100 := by
        rw [ByteArray.size_append, ByteArray.size_append]
        have : (⟨#[115, 116, 117, 100, 101, 110, 116, 32]⟩ : ByteArray).size = 8 := rfl
        have : (⟨#[10]⟩ : ByteArray).size = 1 := rfl
        omega
      have i1 : ¬ 9223372036854775807 < 8 + id.size := by omega
      have i2 : ¬ 9223372036854775807 < 8 + id.size + 1 := by omega
      have KP : Hid (∀ x : Nat, x ≤ 1000 → ∀ W, Calls Tryd.prog 56 #[.int .i64 (x : Int)] W fun e w' => e = .returned (.string (wrd (x : Int))) ∧ Below W.heap.size W w') := fun x hx W => l1Dec_any (x : Int) W (by omega) (by omega)
      clear hi hv hr
      obtain ⟨n, hn⟩ : ∃ n, vs.length = n := ⟨_, rfl⟩
      have Hn := hideP hn
      rw [hn] at hn20 HR hl KV ⊢
      clear hn
      go_enter Tryd.func20, Tryd.ntmps20
      go_wp2_with fail
      refine KD.out.mono ?_
      rintro e w' ⟨rfl, rfl⟩
      go_wp2_with fail
      refine (KV.out _ BR.out).mono ?_
      rintro e w1 ⟨rfl, hb1⟩
      have B1 := hideP hb1
      clear hb1 KD KV
      go_wp2_with fail
      go_loopw [6, 7, 8] (fun o p i wr => ∃ (k : Nat) (s : ByteArray), k ≤ n ∧ i = .int .i64 (k : Int) ∧ o = .string s ∧ p = .int .i64 (Pl.passK vs k : Int) ∧ s.size ≤ 100 * (k + 1) ∧ Hid (s.data.toList = Pl.headL id.data.toList ++ Pl.lnsK vs k) ∧ Hid (Below w'.heap.size w' wr)) (fun _ _ i _ => n - (intOf i).toNat)
      case atStart => exact ⟨0, _, Nat.zero_le _, rfl, rfl, rfl, by omega, h0, B1⟩
      case round =>
        obtain ⟨k, s, hk, rfl, rfl, rfl, hs, hS, BB⟩ := hrel
        have hp := Pl.passK_le vs k
        by_cases hlt : k < n
        · have hlt' : (k : Int) < (n : Int) := by omega
          rcases HR.out with h0' | ⟨b, off, hb, rfl, hc⟩
          · omega
          · have c0 : wr.cell? ⟨b, off + k * 2, none⟩ = some (.int .i64 (Pl.at2 vs k).1) := (BB.out.cell (p := ⟨b, off + k * 2, none⟩) hb).trans (hc k hlt).1
            have c1 : wr.cell? ⟨b, off + k * 2 + 1, none⟩ = some (.int .i64 (Pl.at2 vs k).2) := (BB.out.cell (p := ⟨b, off + k * 2 + 1, none⟩) hb).trans (hc k hlt).2
            have hvb := Pl.vsAll_at HALL.out (k := k) (by rw [Hn.out]; exact hlt)
            have HA := hideP (app_line hS.out)
            have HP : Hid (Pl.passK vs (k + 1) = Pl.passK vs k + (if (Pl.at2 vs k).1 = 1 then 1 else 0)) := rfl
            have zw : (Pl.word (Pl.at2 vs k).1 (Pl.at2 vs k).2).size ≤ 27 := by
              have := Pl.word_len hvb
              show (Pl.wordL _ _).toArray.size ≤ 27
              rw [List.size_toArray]; exact this
            have zd : (wrd ((k : Int) + 1)).size ≤ 21 := by
              have := Lib.itoa_length_le ((k : Int) + 1) (by omega) (by omega)
              show (Lib.itoa _).toArray.size ≤ 21
              rw [List.size_toArray]; exact this
            clear hc
            generalize Pl.at2 vs k = t at *
            obtain ⟨tk, tc⟩ := t
            simp only at c0 c1 hvb HA HP zw
            have q0 := cell_regrown c0
            have q1 := cell_regrown c1
            have f0 : ∀ d os, Calls Tryd.prog 56 #[.int .i64 (IntKind.i64.wrap ((k : Int) + 1))] (grow (redrawn wr d) os) fun e w'' => e = .returned (.string (wrd ((k : Int) + 1))) ∧ ∃ p : Regrown, w'' = grow (redrawn wr p.d) p.os := fun d os => by
              have hw : IntKind.i64.wrap ((k : Int) + 1) = (k : Int) + 1 := by rw [IntKind.wrap_i64]; omega
              rw [hw]
              exact Calls.regrown_of (l1Dec_any ((k : Int) + 1) _ (by omega) (by omega))
            have f1 : ∀ d os, Calls Tryd.prog 57 #[.agg #[.int .i64 tk, .int .i64 tc]] (grow (redrawn wr d) os) fun e w'' => e = .returned (.string (Pl.word tk tc)) ∧ ∃ p : Regrown, w'' = grow (redrawn wr p.d) p.os := fun d os => Calls.regrown_of (l6Word_any tk tc _ hvb)
            have z' : (s ++ ⟨#[116, 101, 115, 116, 32]⟩ ++ wrd ((k : Int) + 1) ++ ⟨#[32]⟩ ++ Pl.word tk tc ++ ⟨#[10]⟩).size ≤ 100 * (k + 1 + 1) := by
              simp only [ByteArray.size_append]
              have e1 : (⟨#[116, 101, 115, 116, 32]⟩ : ByteArray).size = 5 := rfl
              have e2 : (⟨#[10]⟩ : ByteArray).size = 1 := rfl
              have e3 : (⟨#[32]⟩ : ByteArray).size = 1 := rfl
              omega
            have n1 : ¬ 9223372036854775807 < s.size + 5 := by omega
            have n2 : ¬ 9223372036854775807 < s.size + 5 + (wrd ((k : Int) + 1)).size := by omega
            have n3 : ¬ 9223372036854775807 < s.size + 5 + (wrd ((k : Int) + 1)).size + 1 := by omega
            have n4 : ¬ 9223372036854775807 < s.size + 5 + (wrd ((k : Int) + 1)).size + 1 + (Pl.word tk tc).size := by omega
            have n5 : ¬ 9223372036854775807 < s.size + 5 + (wrd ((k : Int) + 1)).size + 1 + (Pl.word tk tc).size + 1 := by omega
            have Z := hideP z'
            clear z' zw zd
            generalize wrd ((k : Int) + 1) = sd at *
            generalize Pl.word tk tc = sw at *
            go_wp2_with fail
            refine wp_region_quiet_below (by kernel_rfl) (by kernel_rfl) ?_
            repeat (quiet_step (first | (go_at_call 56; exact f0 _ _) | (go_at_call 57; exact f1 _ _)))
            refine wpQuiet_nil ?_
            intro _ hw'
            obtain ⟨⟨dq, osq⟩, hw''⟩ := hw'
            subst hw''
            have B2 : Hid (Below w'.heap.size w' (grow (redrawn wr dq) osq)) := BB.out.trans ((below_regrown wr dq osq).mono BB.out.size)
            have q0' := q0 dq osq
            clear q0 q1 f0 f1 c0 c1 n1 n2 n3 n4 n5
            generalize grow (redrawn wr dq) osq = w2 at *
            by_cases h1 : tk = 1
            · have h1' : (tk == 1) = true := by rw [beq_iff_eq]; exact h1
              have HP' : Hid (Pl.passK vs (k + 1) = Pl.passK vs k + 1) := by show _ = _; rw [HP.out, if_pos h1]
              clear h1 hvb
              go_wp2_with fail
              refine (l2Bool_any true _).mono ?_
              rintro e w'' ⟨rfl, rfl⟩
              go_wp2_with fail
              go_roundw
              case rel => exact ⟨k + 1, _, by omega, by go_num, rfl, by rw [HP'.out]; go_num, Z.out, HA, B2⟩
              case measure => simp [intOf]; omega
            · have h1' : (tk == 1) = false := by rw [beq_eq_false_iff_ne]; exact h1
              have HP' : Hid (Pl.passK vs (k + 1) = Pl.passK vs k) := by show _ = _; rw [HP.out, if_neg h1]; rfl
              clear h1 hvb
              go_wp2_with fail
              refine (l2Bool_any false _).mono ?_
              rintro e w'' ⟨rfl, rfl⟩
              go_wp2_with fail
              go_roundw
              case rel => exact ⟨k + 1, _, by omega, by go_num, rfl, by rw [HP'.out], Z.out, HA, B2⟩
              case measure => simp [intOf]; omega
        · have hlt' : ¬ (k : Int) < (n : Int) := by omega
          have kn : k = n := by omega
          have HFin : Hid (∀ x y : ByteArray, x = wrd (Pl.passK vs k : Int) → y = wrd (n : Int) → s ++ ⟨#[112, 97, 115, 115, 101, 100, 32]⟩ ++ x ++ ⟨#[32, 111, 102, 32]⟩ ++ y ++ ⟨#[10]⟩ = Pl.rep id vs) := by
            rintro x y rfl rfl
            rw [HREP.out]
            apply ByteArray.ext
            apply Array.toList_inj.1
            have hs' := hS.out
            show _ = Pl.repL id.data.toList vs
            unfold Pl.repL Pl.footL wrd
            rw [Hn.out, ← kn]
            simp [hs']
          have zp : (wrd (Pl.passK vs k : Int)).size ≤ 21 := by
            have := Lib.itoa_length_le (Pl.passK vs k : Int) (by omega) (by omega)
            show (Lib.itoa _).toArray.size ≤ 21
            rw [List.size_toArray]; exact this
          have zn : (wrd (n : Int)).size ≤ 21 := by
            have := Lib.itoa_length_le (n : Int) (by omega) (by omega)
            show (Lib.itoa _).toArray.size ≤ 21
            rw [List.size_toArray]; exact this
          have K1 := hideP (KP.out (Pl.passK vs k) (by omega))
          have K2 := hideP (KP.out n (by omega))
          obtain ⟨x, hx⟩ : ∃ x, wrd (Pl.passK vs k : Int) = x := ⟨_, rfl⟩
          obtain ⟨y, hy⟩ : ∃ y, wrd (n : Int) = y := ⟨_, rfl⟩
          have HF2 := hideP (HFin.out x y hx.symm hy.symm)
          rw [hx] at K1 zp
          rw [hy] at K2 zn
          have n1 : ¬ 9223372036854775807 < s.size + 7 := by omega
          have n2 : ¬ 9223372036854775807 < s.size + 7 + x.size := by omega
          have n3 : ¬ 9223372036854775807 < s.size + 7 + x.size + 4 := by omega
          have n4 : ¬ 9223372036854775807 < s.size + 7 + x.size + 4 + y.size := by omega
          have n5 : ¬ 9223372036854775807 < s.size + 7 + x.size + 4 + y.size + 1 := by omega
          clear hx hy HFin kn
          go_wp2_with fail
          refine (K1.out _).mono ?_
          rintro e w3 ⟨rfl, hb3⟩
          have B3 := hideP (BB.out.trans (hb3.mono BB.out.size))
          clear hb3
          go_wp2_with fail
          refine (K2.out _).mono ?_
          rintro e w4 ⟨rfl, hb4⟩
          have B4 := hideP (B3.out.trans (hb4.mono B3.out.size))
          clear hb4
          go_wp2_with fail
          go_ret2
          exact ⟨by rw [← HF2.out]; rfl, B4.out⟩

end Go.Proofs.YtbmkbplgncoapaaDoor
