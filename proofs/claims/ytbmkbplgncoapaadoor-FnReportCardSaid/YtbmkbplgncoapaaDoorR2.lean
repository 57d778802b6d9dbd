import Derived.Test.YtbmkbplgncoapaaDoorR1
namespace Go.Proofs.YtbmkbplgncoapaaDoor
open Go.RowKit
set_option linter.unusedVariables false

set_option maxRecDepth 100000 in
set_option maxHeartbeats 2000000 in
/-- spec.l6After -/
theorem l6After_any (s h : ByteArray) (w : World) (hs : s.size ≤ 1048576) (hh : h.size ≤ 1048576) :
    Calls Tryd.prog 67 #[.string s, .string h] w fun e w' => ∃ p : ByteArray, e = .returned (.string p) ∧ w' = w ∧ p.size ≤ s.size ∧ ∀ x, bl s = bl h ++ x → bl p = x := by
  by_cases hlt : s.size < h.size
  · have hlt' : (s.size : Int) < (h.size : Int) := by omega
    have HX : Hid (∀ x, bl s = bl h ++ x → bl (⟨#[]⟩ : ByteArray) = x) := fun x e => by
      have := congrArg List.length e
      rw [List.length_append, bl_len, bl_len] at this
      omega
    go_enter Tryd.func67, Tryd.ntmps67
    go_wp2_with fail
    go_ret
    exact ⟨_, rfl, rfl, Nat.zero_le _, HX.out⟩
  · have hlt' : ¬ (s.size : Int) < (h.size : Int) := by omega
    have hle : (h.size : Int) ≤ (s.size : Int) := by omega
    by_cases hq : s.extract 0 h.size = h
    · have hq' : ((s.extract 0 h.size).toList == h.toList) = true := by rw [ba_eq]; exact decide_eq_true hq
      have HX : Hid (∀ x, bl s = bl h ++ x → bl (s.extract h.size s.size) = x) := fun x e => by
        rw [bl_drop, e, ← bl_len h, List.drop_left]
      have HZ : Hid ((s.extract h.size s.size).size ≤ s.size) := by show _ ≤ _; rw [ByteArray.size_extract]; omega
      clear hq
      go_enter Tryd.func67, Tryd.ntmps67
      go_wp2_with fail
      go_ret
      exact ⟨_, rfl, rfl, HZ.out, HX.out⟩
    · have hq' : ((s.extract 0 h.size).toList == h.toList) = false := by rw [ba_eq]; exact decide_eq_false hq
      have HX : Hid (∀ x, bl s = bl h ++ x → bl (⟨#[]⟩ : ByteArray) = x) := fun x e => by
        exfalso
        apply hq
        apply ByteArray.ext
        apply Array.toList_inj.1
        show bl (s.extract 0 h.size) = bl h
        rw [bl_take, e, ← bl_len h, List.take_left]
      clear hq
      go_enter Tryd.func67, Tryd.ntmps67
      go_wp2_with fail
      go_ret
      exact ⟨_, rfl, rfl, Nat.zero_le _, HX.out⟩

/-- the answer's variable of a verdict, not yet filled -/
def Slv (N : Nat) (w : World) : Prop := N < w.heap.size ∧ w.cell? ⟨N, 0, none⟩ = some (.int .i64 0) ∧ w.cell? ⟨N, 1, none⟩ = some (.int .i64 0) ∧ ∀ o, w.frozen? ⟨N, o, none⟩ = false
theorem Slv.keep {N : Nat} {w w' : World} (h : Slv N w) (hb : Below w.heap.size w w') : Slv N w' :=
  ⟨Nat.lt_of_lt_of_le h.1 hb.size, (hb.cell (p := ⟨N, 0, none⟩) h.1).trans h.2.1, (hb.cell (p := ⟨N, 1, none⟩) h.1).trans h.2.2.1, fun o => (hb.frozen (p := ⟨N, o, none⟩) h.1).trans (h.2.2.2 o)⟩
theorem Slv.new (w : World) : Slv w.heap.size (w.alloc (.cells #[.int .i64 0, .int .i64 0] 78)) := ⟨by simp, by simp [go_sem], by simp [go_sem], fun o => by simp [go_sem]⟩
theorem below2 {N : Nat} {w w' : World} (h : Below N w w') (u0 u1 : Value) : Below N w ((w'.setCell ⟨N, 0, none⟩ u0).setCell ⟨N, 1, none⟩ u1) := (h.setCell (Nat.le_refl _) _).setCell (Nat.le_refl _) _

/-- what the reading of a verdict says -/
def VPost (w : World) (Q : Pl.Vt → Prop) (e : Ending) (w' : World) : Prop := Below w.heap.size w w' ∧ ∃ k c : Int, e = .returned (.agg #[.int .i64 k, .int .i64 c]) ∧ Q (k, c)

def VRd (s : ByteArray) (t : Pl.Vt) : Prop := ∀ v : Pl.Vt, Pl.vB v.1 v.2 = true → bl s = Pl.wordL v.1 v.2 → t = v
def LRd (s : ByteArray) (t : Pl.Vt) : Prop := ∀ (i : Nat) (v : Pl.Vt), Pl.vB v.1 v.2 = true → bl s = Pl.lin i v → t = v

theorem word_bl (k c : Int) : bl (Pl.word k c) = Pl.wordL k c := rfl
theorem word_eq {s : ByteArray} {k c : Int} : s = Pl.word k c ↔ bl s = Pl.wordL k c := by
  constructor
  · rintro rfl; rfl
  · intro h
    apply ByteArray.ext
    exact Array.toList_inj.1 h

set_option maxRecDepth 100000 in
set_option maxHeartbeats 8000000 in
/-- spec.l6Verdict -/
theorem l6Verdict_any (s : ByteArray) (w : World) : Calls Tryd.prog 68 #[.string s] w (VPost w (VRd s)) := by
  have BA : Hid (Below w.heap.size w (w.alloc (.cells #[.int .i64 0, .int .i64 0] 78))) := (Below.refl _ _).alloc (Nat.le_refl _) _
  have SA := hideP (Slv.new w)
  go_enter Tryd.func68, Tryd.ntmps68
  go_wp2_with fail
  go_loopw [3] (fun i wr => ∃ k : Nat, 1 ≤ k ∧ k ≤ 6 ∧ i = .int .i64 (k : Int) ∧ Hid (∀ j : Nat, 1 ≤ j → j < k → ¬ j = 3 → ¬ bl s = Pl.wordL (j : Int) 0) ∧ Hid (Slv w.heap.size wr) ∧ Hid (Below w.heap.size w wr)) (fun i _ => 6 - (intOf i).toNat)
  case atStart => exact ⟨1, by omega, by omega, rfl, fun j h1 h2 => by omega, SA, BA⟩
  case round =>
    obtain ⟨k, hk1, hk6, rfl, hno, hS, BB⟩ := hrel
    clear SA BA
    by_cases h5 : k ≤ 5
    · have h5' : (k : Int) ≤ 5 := by omega
      by_cases h3 : k = 3
      · subst h3
        have HN : Hid (∀ j : Nat, 1 ≤ j → j < 3 + 1 → ¬ j = 3 → ¬ bl s = Pl.wordL (j : Int) 0) := fun j h1 h2 h3 => hno.out j h1 (by omega) h3
        clear hno
        go_wp2_with fail
        go_roundw
        case rel => exact ⟨4, by omega, by omega, rfl, HN, hS, BB⟩
        case measure => simp [intOf]
      · have h3' : ((k : Int) != 3) = true := by rw [bne_iff_ne]; omega
        have hvb : Pl.vB (k : Int) 0 = true := by unfold Pl.vB; rw [if_neg (by omega), decide_eq_true (show (1 : Int) ≤ k ∧ (k : Int) ≤ 5 by omega)]; rfl
        have H3 := hideP h3
        have HV := hideP hvb
        clear h3
        go_wp2_with fail
        refine (l6Word_any (k : Int) 0 _ hvb).mono ?_
        rintro e w2 ⟨rfl, hb2⟩
        have B2 := hideP (BB.out.trans (hb2.mono BB.out.size))
        have S2 := hideP (hS.out.keep hb2)
        clear hb2 hvb
        by_cases hq : s = Pl.word (k : Int) 0
        · have hq' : (s.toList == (Pl.word (k : Int) 0).toList) = true := by rw [ba_eq]; exact decide_eq_true hq
          have HQ : Hid (∀ v : Pl.Vt, Pl.vB v.1 v.2 = true → bl s = Pl.wordL v.1 v.2 → ((k : Int), (0 : Int)) = v) := fun v hv e => Pl.word_inj (v := ((k : Int), (0 : Int))) HV.out hv (by rw [← e, hq]; rfl)
          have BR := hideP (below2 B2.out (.int .i64 (k : Int)) (.int .i64 0))
          obtain ⟨_, s0, s1, sf⟩ := S2.out
          clear hq
          generalize Pl.word (k : Int) 0 = sw at *
          go_wp2_with fail
          refine bodyPost_ret (v := .agg #[.int .i64 (k : Int), .int .i64 0]) (by simp [results, Tryd.results68, go_sem, s0, s1]) rfl ⟨BR.out, _, _, rfl, HQ.out⟩
        · have hq' : (s.toList == (Pl.word (k : Int) 0).toList) = false := by rw [ba_eq]; exact decide_eq_false hq
          have HN : Hid (∀ j : Nat, 1 ≤ j → j < k + 1 → ¬ j = 3 → ¬ bl s = Pl.wordL (j : Int) 0) := fun j h1 h2 h3 => by
            by_cases hj : j < k
            · exact hno.out j h1 hj h3
            · obtain rfl : j = k := by omega
              exact fun e => hq (word_eq.2 e)
          clear hq hno
          generalize Pl.word (k : Int) 0 = sw at *
          go_wp2_with fail
          go_roundw
          case rel => exact ⟨k + 1, by omega, by omega, by go_num, HN, S2, B2⟩
          case measure => simp [intOf]; omega
    · have h5' : ¬ (k : Int) ≤ 5 := by omega
      have HN1 : Hid (∀ v : Pl.Vt, Pl.vB v.1 v.2 = true → bl s = Pl.wordL v.1 v.2 → v.1 = 3) := fun v hv e => by
        obtain ⟨a, b⟩ := v
        simp only at hv e ⊢
        by_cases h3 : a = 3
        · exact h3
        · exfalso
          have r := Pl.vB_range hv
          have z : b = 0 := by
            unfold Pl.vB at hv
            rw [if_neg h3, Bool.and_eq_true] at hv
            exact of_decide_eq_true hv.2
          have ha : ((a.toNat : Nat) : Int) = a := by omega
          refine hno.out a.toNat (by omega) (by omega) (by omega) ?_
          rw [ha, ← z]
          exact e
      clear hno
      go_wp2_with fail
      go_loopw [4, 5] (fun i _ wr => ∃ c : Nat, 1 ≤ c ∧ c ≤ 100 ∧ i = .int .i64 (c : Int) ∧ Hid (∀ j : Nat, 1 ≤ j → j < c → ¬ bl s = Pl.wordL 3 (j : Int)) ∧ Hid (Slv w.heap.size wr) ∧ Hid (Below w.heap.size w wr)) (fun i _ _ => 100 - (intOf i).toNat)
      case atStart => exact ⟨1, by omega, by omega, rfl, fun j h1 h2 => by omega, hS, BB⟩
      case round =>
        clear hS BB
        obtain ⟨c, hc1, hc6, rfl, hno, hS, BB⟩ := hrel
        by_cases h9 : c ≤ 99
        · have h9' : (c : Int) ≤ 99 := by omega
          have hvb : Pl.vB 3 (c : Int) = true := by unfold Pl.vB; rw [if_pos rfl]; exact decide_eq_true ⟨by omega, by omega⟩
          have HV := hideP hvb
          have AL : Hid (Below wr.heap.size wr (wr.alloc (.cells #[.int .i64 3, .int .i64 (c : Int)] 78))) := (Below.refl _ _).alloc (Nat.le_refl _) _
          have B1 := hideP (BB.out.trans (AL.out.mono BB.out.size))
          have S1 := hideP (hS.out.keep AL.out)
          have X1 : Hid ((wr.alloc (.cells #[.int .i64 3, .int .i64 (c : Int)] 78)).cell? ⟨wr.heap.size, 0, none⟩ = some (.int .i64 3) ∧ (wr.alloc (.cells #[.int .i64 3, .int .i64 (c : Int)] 78)).cell? ⟨wr.heap.size, 1, none⟩ = some (.int .i64 (c : Int))) := ⟨by simp [go_sem], by simp [go_sem]⟩
          have L1 : Hid (wr.heap.size < (wr.alloc (.cells #[.int .i64 3, .int .i64 (c : Int)] 78)).heap.size) := by show _ < _; simp
          go_wp2_with fail
          refine (l6Word_any 3 (c : Int) _ hvb).mono ?_
          rintro e w2 ⟨rfl, hb2⟩
          have B2 := hideP (B1.out.trans (hb2.mono B1.out.size))
          have S2 := hideP (S1.out.keep hb2)
          have x0 : w2.cell? ⟨wr.heap.size, 0, none⟩ = some (.int .i64 3) := (hb2.cell (p := ⟨wr.heap.size, 0, none⟩) L1.out).trans X1.out.1
          have x1 : w2.cell? ⟨wr.heap.size, 1, none⟩ = some (.int .i64 (c : Int)) := (hb2.cell (p := ⟨wr.heap.size, 1, none⟩) L1.out).trans X1.out.2
          clear hb2 hvb AL B1 S1 X1 L1
          by_cases hq : s = Pl.word 3 (c : Int)
          · have hq' : (s.toList == (Pl.word 3 (c : Int)).toList) = true := by rw [ba_eq]; exact decide_eq_true hq
            have HQ : Hid (∀ v : Pl.Vt, Pl.vB v.1 v.2 = true → bl s = Pl.wordL v.1 v.2 → ((3 : Int), (c : Int)) = v) := fun v hv e => Pl.word_inj (v := ((3 : Int), (c : Int))) HV.out hv (by rw [← e, hq]; rfl)
            have BR := hideP (below2 B2.out (.int .i64 3) (.int .i64 (c : Int)))
            obtain ⟨_, s0, s1, sf⟩ := S2.out
            clear hq
            generalize Pl.word 3 (c : Int) = sw at *
            go_wp2_with fail
            refine bodyPost_ret (v := .agg #[.int .i64 3, .int .i64 (c : Int)]) (by simp [results, Tryd.results68, go_sem, s0, s1]) rfl ⟨BR.out, _, _, rfl, HQ.out⟩
          · have hq' : (s.toList == (Pl.word 3 (c : Int)).toList) = false := by rw [ba_eq]; exact decide_eq_false hq
            have HN : Hid (∀ j : Nat, 1 ≤ j → j < c + 1 → ¬ bl s = Pl.wordL 3 (j : Int)) := fun j h1 h2 => by
              by_cases hj : j < c
              · exact hno.out j h1 hj
              · obtain rfl : j = c := by omega
                exact fun e => hq (word_eq.2 e)
            clear hq hno
            generalize Pl.word 3 (c : Int) = sw at *
            go_wp2_with fail
            go_roundw
            case rel => exact ⟨c + 1, by omega, by omega, by go_num, HN, S2, B2⟩
            case measure => simp [intOf]; omega
        · have h9' : ¬ (c : Int) ≤ 99 := by omega
          have HQ : Hid (∀ v : Pl.Vt, Pl.vB v.1 v.2 = true → bl s = Pl.wordL v.1 v.2 → ((0 : Int), (0 : Int)) = v) := fun v hv e => by
            exfalso
            have h3 := HN1.out v hv e
            have r := (Pl.vB_range hv).2.2 h3
            have hb : ((v.2.toNat : Nat) : Int) = v.2 := by omega
            refine hno.out v.2.toNat (by omega) (by omega) ?_
            rw [hb, e, h3]
          have BR := hideP (below2 BB.out (.int .i64 0) (.int .i64 0))
          obtain ⟨_, s0, s1, sf⟩ := hS.out
          clear hno
          go_wp2_with fail
          refine bodyPost_ret (v := .agg #[.int .i64 0, .int .i64 0]) (by simp [results, Tryd.results68, go_sem, s0, s1]) rfl ⟨BR.out, _, _, rfl, HQ.out⟩

end Go.Proofs.YtbmkbplgncoapaaDoor
