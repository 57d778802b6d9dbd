import Derived.Test.YtljkolffjjhgeaaDoorStre
import Derived.Below
import Derived.Laws.IdiomCopy
namespace Go.Proofs.YtljkolffjjhgeaaDoor
open Go.RowKit
set_option linter.unusedVariables false
/-- impl.valueFits -/
theorem valueFits_any (x : Int) (w : World) :
    Calls Tryd.prog 65 #[.int .i64 x] w fun e w' => e = .returned (.bool (decide (-3000000000 ≤ x) && decide (x ≤ 3000000000))) ∧ w' = w := by
  by_cases h0 : -3000000000 ≤ x <;> by_cases h1 : x ≤ 3000000000 <;>
  · go_enter Tryd.func65, Tryd.ntmps65
    go_wp2
    go_ret
    exact ⟨ret_bool (by simp; omega), rfl⟩
/-- impl.stretchEnd -/
theorem stretchEnd_any (s : ByteArray) (i : Nat) (w : World) (hi : i < s.size) (hl : s.size ≤ 9223372036854775807) :
    Calls Tryd.prog 45 #[.string s, .int .i64 i] w fun e w' => e = .returned (.int .i64 (Pl.stre s (s.size - (i + 1)) (i + 1) : Nat)) ∧ w' = w := by
  have HY : Hid (∀ k, k < s.size → Pl.ldI (Pl.bt s k) = true → Pl.stre s (s.size - k) k = Pl.stre s (s.size - (k + 1)) (k + 1)) := fun k => Pl.stre_yes
  have HN : Hid (∀ k, k < s.size → Pl.ldI (Pl.bt s k) = false → Pl.stre s (s.size - k) k = k) := fun k => Pl.stre_no
  have HE : Hid (∀ k, s.size ≤ k → Pl.stre s (s.size - k) k = k) := fun k => Pl.stre_end
  generalize hn : s.size = n at *
  generalize hr : Pl.stre s (n - (i + 1)) (i + 1) = r at *
  have Hn : Hid (s.size = n) := hn
  have Hr := hideP hr
  clear hr
  go_enter Tryd.func45, Tryd.ntmps45
  go_wp2
  go_loop [5] (fun v => ∃ k : Nat, k ≤ n ∧ v = .int .i64 k ∧ Hid (Pl.stre s (n - k) k = r)) (fun v => n - (intOf v).toNat)
  case atStart => exact ⟨i + 1, hi, by go_num, Hr.out⟩
  case round =>
    obtain ⟨k, hk, rfl, hst⟩ := hrel
    by_cases hlt : k < n
    · have hix := idx_str s k (by omega)
      have Y := hideP (HY.out k hlt)
      have N := hideP (HN.out k hlt)
      clear HY HN HE
      generalize Pl.bt s k = x at *
      have K : Hid (∀ w, Calls Tryd.prog 44 #[.int .u8 x] w fun e w' => e = .returned (.bool (Pl.ldI x)) ∧ w' = w) := fun w => by
        have h := isLetterOrDigit_any x w
        rw [Bool.or_comm] at h
        exact h
      cases h1 : Pl.ldI x
      · rw [h1] at K
        have HX := hideP h1
        clear h1
        go_wp2_with (go_at_call 44; refine (K.out _).mono ?_; rintro e w' ⟨rfl, rfl⟩)
        go_ret
        exact ⟨ret_int (by rw [← hst.out, N.out HX.out]), rfl⟩
      · rw [h1] at K
        have HX := hideP h1
        clear h1
        go_wp2_with (go_at_call 44; refine (K.out _).mono ?_; rintro e w' ⟨rfl, rfl⟩)
        go_round
        case rel => exact ⟨k + 1, by omega, by go_num, by show _ = _; rw [← hst.out, Y.out HX.out]⟩
        case measure => simp [intOf]; omega
    · have E := hideP (HE.out k (by omega))
      clear HY HN HE
      go_wp2
      go_ret
      exact ⟨ret_int (by rw [← hst.out, E.out]), rfl⟩
namespace Pl
def hasB (L : List ByteArray) (s : ByteArray) (k : Nat) : Bool := (L.take k).any (fun x => decide (x = s))
theorem hasB_snoc {L : List ByteArray} {s : ByteArray} {k : Nat} (h : k < L.length) : hasB L s (k + 1) = (hasB L s k || decide (L.getD k default = s)) := by
  unfold hasB
  rw [List.take_add_one, List.any_append, List.getElem?_eq_getElem h]
  simp [List.getD_eq_getElem?_getD, List.getElem?_eq_getElem h]
theorem hasB_yes {L : List ByteArray} {s : ByteArray} {k : Nat} (h : k < L.length) (e : L.getD k default = s) : hasB L s L.length = true := by
  unfold hasB
  rw [List.take_length, List.any_eq_true]
  refine ⟨L[k], List.getElem_mem h, ?_⟩
  rw [← e]
  simp [List.getD_eq_getElem?_getD, List.getElem?_eq_getElem h]
end Pl
theorem ba_eq {a b : ByteArray} : (a.toList == b.toList) = decide (a = b) := by
  rw [ByteArray.toList_eq, ByteArray.toList_eq]
  by_cases h : a = b
  · subst h; simp
  · have : ¬ a.data.toList = b.data.toList := fun e => h (by cases a; cases b; simp at e ⊢; exact e)
    rw [decide_eq_false h]; exact beq_eq_false_iff_ne.2 this
/-- spec.l3Has -/
theorem l3Has_any (L : List ByteArray) (b o cap : Nat) (s : ByteArray) (w : World) (hl : L.length ≤ 1000000) (hc : ∀ j, j < L.length → w.cell? ⟨b, o + j, none⟩ = some (.string (L.getD j default))) :
    Calls Tryd.prog 25 #[.slice (some ⟨b, o, none⟩) L.length cap, .string s] w fun e w' => e = .returned (.bool (Pl.hasB L s L.length)) ∧ w' = w := by
  have HS : Hid (∀ k, k < L.length → Pl.hasB L s (k + 1) = (Pl.hasB L s k || decide (L.getD k default = s))) := fun k => Pl.hasB_snoc
  have HY : Hid (∀ k, k < L.length → L.getD k default = s → Pl.hasB L s L.length = true) := fun k => Pl.hasB_yes
  have HC := hideP hc
  clear hc
  generalize hn : L.length = n at *
  go_enter Tryd.func25, Tryd.ntmps25
  go_wp2
  go_loop [5] (fun v => ∃ k : Nat, k ≤ n ∧ v = .int .i64 k ∧ Hid (Pl.hasB L s k = false)) (fun v => n - (intOf v).toNat)
  case atStart => exact ⟨0, Nat.zero_le _, rfl, rfl⟩
  case round =>
    obtain ⟨k, hk, rfl, hst⟩ := hrel
    by_cases hlt : k < n
    · have hcell := HC.out k hlt
      have Y := hideP (HY.out k hlt)
      have N := hideP (HS.out k hlt)
      clear HY HS HC
      generalize L.getD k default = x at *
      by_cases hx : x = s
      · have HX := hideP (Y.out hx)
        have hq : (x.toList == s.toList) = true := by rw [ba_eq]; exact decide_eq_true hx
        clear hx Y N
        go_wp2
        go_ret
        exact ⟨ret_bool (by rw [HX.out]), rfl⟩
      · have HX := hideP (show Pl.hasB L s (k + 1) = false by rw [N.out, hst.out]; simp [hx])
        have hq : (x.toList == s.toList) = false := by rw [ba_eq]; exact decide_eq_false hx
        clear hx Y N
        go_wp2
        go_round
        case rel => exact ⟨k + 1, by omega, by go_num, HX.out⟩
        case measure => simp [intOf]; omega
    · obtain rfl : k = n := by omega
      go_wp2
      go_ret
      exact ⟨ret_bool (by rw [hst.out]), rfl⟩
set_option maxRecDepth 100000
namespace Pl
def words : List ByteArray := [⟨#[109, 97, 120]⟩, ⟨#[109, 105, 110]⟩, ⟨#[97, 98, 115]⟩, ⟨#[115, 105, 103, 110]⟩, ⟨#[105, 111, 116, 97]⟩, ⟨#[114, 104, 111]⟩, ⟨#[99, 97, 116]⟩, ⟨#[114, 101, 118]⟩, ⟨#[102, 108, 105, 112]⟩, ⟨#[103, 114, 97, 100, 101]⟩, ⟨#[99, 111, 117, 110, 116]⟩, ⟨#[116, 97, 107, 101]⟩, ⟨#[100, 114, 111, 112]⟩, ⟨#[102, 114, 111, 109]⟩, ⟨#[109, 97, 116, 99, 104]⟩, ⟨#[114, 111, 108, 108]⟩, ⟨#[115, 101, 108, 102]⟩]
/-- spec.l3WordKind -/
def wkS (s : ByteArray) : Int := if 20 < s.size then 120 else if s = ⟨#[115, 101, 108, 102]⟩ ∨ (65 ≤ bt s 0 ∧ bt s 0 ≤ 90) then 70 else if hasB words s 17 = true then 115 else 119
end Pl
/-- spec.l3Words -/
theorem l3Words_any (w : World) :
    Calls Tryd.prog 39 #[] w fun e w' => e = .returned (.slice (some ⟨w.heap.size, 0, none⟩) 17 17) ∧ w' = w.alloc (.cells (Pl.words.map Value.string).toArray 9) := by
  go_enter Tryd.func39, Tryd.ntmps39
  go_wp2
  go_ret
  exact ⟨rfl, rfl⟩
theorem words_at (j : Nat) (hj : j < Pl.words.length) : (Pl.words.map Value.string).toArray[0 + j]? = some (.string (Pl.words.getD j default)) := by
  simp [List.getD_eq_getElem?_getD, List.getElem?_eq_getElem hj]
theorem self_list : ByteArray.toList ⟨#[115, 101, 108, 102]⟩ = [115, 101, 108, 102] := by rw [ByteArray.toList_eq]
/-- spec.l3WordKind -/
theorem l3WordKind_any (s : ByteArray) (w : World) (h0 : 0 < s.size) (hl : s.size ≤ 9223372036854775807) :
    Calls Tryd.prog 24 #[.string s] w fun e w' => e = .returned (.int .u8 (Pl.wkS s)) ∧ Below w.heap.size w w' := by
  have hix : ∀ w, (Instr.index 9 (.string s) (.int .i64 0)).run Tryd.prog w = .ok (.int .u8 (Pl.bt s 0)) w := idx_str s 0 h0
  have HW : Hid (∀ x, Pl.bt s 0 = x → Pl.wkS s = if 20 < s.size then 120 else if s = ⟨#[115, 101, 108, 102]⟩ ∨ (65 ≤ x ∧ x ≤ 90) then 70 else if Pl.hasB Pl.words s 17 = true then 115 else 119) := fun x e => by rw [← e]; rfl
  generalize hx : Pl.bt s 0 = x at *
  have HW := hideP (HW.out x rfl)
  clear hx
  generalize Pl.wkS s = r at *
  generalize hn : s.size = n at *
  by_cases g1 : (20 : Int) < n
  · have HR := hideP (show r = 120 by rw [HW.out, if_pos (by omega)])
    go_enter Tryd.func24, Tryd.ntmps24
    go_wp2
    go_ret
    exact ⟨ret_int HR.out.symm, Below.refl _ _⟩
  have HW := hideP (show r = if s = ⟨#[115, 101, 108, 102]⟩ ∨ (65 ≤ x ∧ x ≤ 90) then 70 else if Pl.hasB Pl.words s 17 = true then 115 else 119 by rw [HW.out, if_neg (by omega)])
  by_cases g2 : s = ⟨#[115, 101, 108, 102]⟩
  · have HR := hideP (show r = 70 by rw [HW.out, if_pos (.inl g2)])
    have hq : (s.toList == [115, 101, 108, 102]) = true := by rw [← self_list, ba_eq]; exact decide_eq_true g2
    clear g2
    go_enter Tryd.func24, Tryd.ntmps24
    go_wp2
    go_ret
    exact ⟨ret_int HR.out.symm, Below.refl _ _⟩
  have hq : (s.toList == [115, 101, 108, 102]) = false := by rw [← self_list, ba_eq]; exact decide_eq_false g2
  by_cases g3 : 65 ≤ x ∧ x ≤ 90
  · have HR := hideP (show r = 70 by rw [HW.out, if_pos (.inr g3)])
    obtain ⟨g4, g5⟩ := g3
    clear g2
    go_enter Tryd.func24, Tryd.ntmps24
    go_wp2
    go_ret
    exact ⟨ret_int HR.out.symm, Below.refl _ _⟩
  have HW := hideP (show r = if Pl.hasB Pl.words s 17 = true then 115 else 119 by rw [HW.out, if_neg (by rintro (h | h); exact g2 h; exact g3 h)])
  have K : Hid (∀ w, Calls Tryd.prog 39 #[] w fun e w' => e = .returned (.slice (some ⟨w.heap.size, 0, none⟩) 17 17) ∧ w' = w.alloc (.cells (Pl.words.map Value.string).toArray 9)) := l3Words_any
  have K2 : Hid (∀ w : World, Calls Tryd.prog 25 #[.slice (some ⟨w.heap.size, 0, none⟩) 17 17, .string s] (w.alloc (.cells (Pl.words.map Value.string).toArray 9)) fun e w' => e = .returned (.bool (Pl.hasB Pl.words s 17)) ∧ w' = w.alloc (.cells (Pl.words.map Value.string).toArray 9)) := fun w => l3Has_any Pl.words w.heap.size 0 17 s _ (by decide) (by
    intro j hj
    rw [World.cell?_alloc_at _ _ _ _ (by simp)]
    exact words_at j hj)
  have HB : Hid (∀ o, Below w.heap.size w (w.alloc o)) := fun o => (Below.refl _ _).alloc (Nat.le_refl _) _
  generalize Obj.cells (Pl.words.map Value.string).toArray 9 = ob at *
  generalize Pl.hasB Pl.words s 17 = q at *
  have HG := hideP g2
  clear g2
  by_cases g4 : 65 ≤ x
  · have g5 : ¬ x ≤ 90 := fun h => g3 ⟨g4, h⟩
    clear g3
    cases q
    · have HR := hideP (show r = 119 by rw [HW.out]; rfl)
      go_enter Tryd.func24, Tryd.ntmps24
      go_wp2_with (first | (go_at_call 39; refine (K.out _).mono ?_; rintro e w' ⟨rfl, rfl⟩) | (go_at_call 25; refine (K2.out _).mono ?_; rintro e w' ⟨rfl, rfl⟩))
      go_ret
      exact ⟨ret_int HR.out.symm, HB.out _⟩
    · have HR := hideP (show r = 115 by rw [HW.out]; rfl)
      go_enter Tryd.func24, Tryd.ntmps24
      go_wp2_with (first | (go_at_call 39; refine (K.out _).mono ?_; rintro e w' ⟨rfl, rfl⟩) | (go_at_call 25; refine (K2.out _).mono ?_; rintro e w' ⟨rfl, rfl⟩))
      go_ret
      exact ⟨ret_int HR.out.symm, HB.out _⟩
  · clear g3
    cases q
    · have HR := hideP (show r = 119 by rw [HW.out]; rfl)
      go_enter Tryd.func24, Tryd.ntmps24
      go_wp2_with (first | (go_at_call 39; refine (K.out _).mono ?_; rintro e w' ⟨rfl, rfl⟩) | (go_at_call 25; refine (K2.out _).mono ?_; rintro e w' ⟨rfl, rfl⟩))
      go_ret
      exact ⟨ret_int HR.out.symm, HB.out _⟩
    · have HR := hideP (show r = 115 by rw [HW.out]; rfl)
      go_enter Tryd.func24, Tryd.ntmps24
      go_wp2_with (first | (go_at_call 39; refine (K.out _).mono ?_; rintro e w' ⟨rfl, rfl⟩) | (go_at_call 25; refine (K2.out _).mono ?_; rintro e w' ⟨rfl, rfl⟩))
      go_ret
      exact ⟨ret_int HR.out.symm, HB.out _⟩
namespace Pl
/-- spec.l3NameOk -/
def nameS (s : ByteArray) (kd : Int) : Bool := decide (s.size ≠ 0) && lttI (bt s 0) && decide (stre s (s.size - 0) 0 = s.size) && decide (wkS s = kd)
end Pl
theorem ba_nil {s : ByteArray} : (s.toList == []) = decide (s.size = 0) := by
  rw [ByteArray.toList_eq]
  cases s with
  | mk d =>
    cases d with
    | mk l => cases l <;> simp [ByteArray.size]
namespace Pl
def al (c : UInt8) : Bool := isL c || isD c
theorem ltt_eq (c : UInt8) : lttI (c.toNat : Int) = isL c := by
  rw [Bool.eq_iff_iff]
  simp only [lttI, isL, isC, Bool.or_eq_true, Bool.and_eq_true, decide_eq_true_eq, UInt8.le_iff_toNat_le]
  simp
  omega
theorem cap_eq (c : UInt8) : (65 ≤ (c.toNat : Int) ∧ (c.toNat : Int) ≤ 90) ↔ isC c = true := by
  simp only [isC, Bool.and_eq_true, decide_eq_true_eq, UInt8.le_iff_toNat_le]
  simp
  omega
theorem ld_eq (c : UInt8) : ldI (c.toNat : Int) = al c := by
  rw [Bool.eq_iff_iff]
  simp only [ldI, digI, al, ltt_eq, isD, Bool.or_eq_true, Bool.and_eq_true, decide_eq_true_eq, UInt8.le_iff_toNat_le]
  simp
  constructor
  · rintro (h | h)
    · right; omega
    · left; exact h
  · rintro (h | h)
    · right; exact h
    · left; omega
theorem bt_at (s : ByteArray) (k : Nat) (h : k < s.data.toList.length) : bt s k = ((s.data.toList[k]'h).toNat : Int) := by
  unfold bt
  have h' : k < s.data.size := by simpa using h
  rw [getElem!_pos s.data k h']
  simp
theorem stre_list (s : ByteArray) : ∀ n k, s.data.toList.length = k + n → decide (stre s n k = s.data.toList.length) = (s.data.toList.drop k).all al := by
  intro n
  induction n with
  | zero => intro k h; rw [h, List.drop_of_length_le (by omega)]; simp [stre]
  | succ n ih =>
    intro k h
    have hk : k < s.data.toList.length := by omega
    rw [List.drop_eq_getElem_cons hk, List.all_cons, stre, bt_at s k hk, ld_eq]
    split
    · rename_i e
      rw [ih (k + 1) (by omega), e, Bool.true_and]
    · rename_i e
      rw [Bool.eq_false_iff.2 e, Bool.false_and]
      exact decide_eq_false (by omega)
theorem stre_le (s : ByteArray) : ∀ n k, k ≤ stre s n k ∧ stre s n k ≤ k + n := by
  intro n
  induction n with
  | zero => intro k; simp [stre]
  | succ n ih =>
    intro k
    unfold stre
    split
    · have := ih (k + 1); omega
    · omega
theorem bt_zero (s : ByteArray) (h : s.data.toList ≠ []) : bt s 0 = ((s.data.toList.headD 0).toNat : Int) := by
  have hl : 0 < s.data.toList.length := List.length_pos_iff.2 h
  rw [bt_at s 0 hl]
  have key : ∀ (l : List UInt8) (hl : 0 < l.length), ((l[0]'hl).toNat : Int) = ((l.headD 0).toNat : Int) := by
    intro l hl
    cases l with
    | nil => cases hl
    | cons x l => rfl
  exact key _ hl
theorem sz_eq (s : ByteArray) : s.size = s.data.toList.length := by cases s with | mk d => simp [ByteArray.size]
theorem ba_iff (s t : ByteArray) : s = t ↔ s.data.toList = t.data.toList := by
  cases s with | mk a => cases t with | mk b => cases a with | mk a => cases b with | mk b => simp
theorem words_mgs (s : ByteArray) (hs : s.data.toList ≠ selfW) (hL : isL (s.data.toList.headD 0) = true) : hasB words s 17 = mgs.any (fun m => decide (m.t = s.data.toList)) := by
  have h1 : ∀ x ∈ words, x.data.toList = selfW ∨ mgs.any (fun m => decide (m.t = x.data.toList)) = true := by decide
  have h2 : ∀ m ∈ mgs, isL (m.t.headD 0) = true → words.any (fun x => decide (x.data.toList = m.t)) = true := by decide
  have e : words.take 17 = words := rfl
  unfold hasB
  rw [e, Bool.eq_iff_iff]
  constructor
  · intro h
    obtain ⟨x, hx, e⟩ := List.any_eq_true.1 h
    have e := of_decide_eq_true e
    subst e
    rcases h1 _ hx with h | h
    · exact absurd h hs
    · exact h
  · intro h
    obtain ⟨m, hm, e⟩ := List.any_eq_true.1 h
    have e := of_decide_eq_true e
    obtain ⟨x, hx, ex⟩ := List.any_eq_true.1 (h2 m hm (by rw [e]; exact hL))
    rw [List.any_eq_true]
    refine ⟨x, hx, ?_⟩
    rw [decide_eq_true_eq, ba_iff, of_decide_eq_true ex]
    exact e
theorem nameS_eq (s : ByteArray) (kd : Int) : nameS s kd = (decide (s.data.toList ≠ []) && isL (s.data.toList.headD 0) && s.data.toList.all al && decide (wkS s = kd)) := by
  unfold nameS
  rw [sz_eq]
  by_cases h : s.data.toList = []
  · simp [h]
  · have := stre_list s (s.data.toList.length - 0) 0 (by omega)
    have hn : s.data.toList.length ≠ 0 := fun e => h (List.eq_nil_of_length_eq_zero e)
    rw [this, bt_zero s h, ltt_eq, List.drop_zero, decide_eq_true hn, decide_eq_true (p := s.data.toList ≠ []) h]
theorem self_iff (s : ByteArray) : s = ⟨#[115, 101, 108, 102]⟩ ↔ s.data.toList = selfW := by rw [ba_iff]; rfl
theorem wkS_eq (s : ByteArray) (h : s.data.toList ≠ []) (hL : isL (s.data.toList.headD 0) = true) : wkS s = if 20 < s.data.toList.length then 120 else if s.data.toList = selfW ∨ isC (s.data.toList.headD 0) = true then 70 else if mgs.any (fun m => decide (m.t = s.data.toList)) = true then 115 else 119 := by
  unfold wkS
  rw [sz_eq, bt_zero s h]
  by_cases hs : s.data.toList = selfW
  · simp only [self_iff, hs, true_or, if_true]
  · rw [words_mgs s hs hL]
    simp only [self_iff, cap_eq]
theorem nameS_F (s : ByteArray) : nameS s 70 = decide (wk s.data.toList = 3) := by
  rw [nameS_eq]
  by_cases h : s.data.toList = []
  · simp [h, wk]
  cases hL : isL (s.data.toList.headD 0)
  · unfold wk; simp only [hL]; simp
  rw [wkS_eq s h hL]
  unfold wk
  rw [if_neg h, hL, show (fun c => isL c || isD c) = al from rfl]
  cases ha : s.data.toList.all al <;> (by_cases h20 : 20 < s.data.toList.length <;> simp only [h20, if_true, if_false] <;> try simp)
  all_goals (split <;> try split) <;> simp_all
theorem nameS_w (s : ByteArray) : nameS s 119 = decide (wk s.data.toList = 2) := by
  rw [nameS_eq]
  by_cases h : s.data.toList = []
  · simp [h, wk]
  cases hL : isL (s.data.toList.headD 0)
  · unfold wk; simp only [hL]; simp
  rw [wkS_eq s h hL]
  unfold wk
  rw [if_neg h, hL, show (fun c => isL c || isD c) = al from rfl]
  cases ha : s.data.toList.all al <;> (by_cases h20 : 20 < s.data.toList.length <;> simp only [h20, if_true, if_false] <;> try simp)
  all_goals (split <;> try split) <;> simp_all
end Pl
namespace Pl
/-- impl.wordKind by its own tests -/
theorem wk_I (s : ByteArray) (h0 : s.size ≠ 0) : wk s.data.toList = if 20 < s.size then 0 else if lttI (bt s 0) = false then 0 else if stre s (s.size - 1) 1 < s.size then 0 else if s = ⟨#[115, 101, 108, 102]⟩ ∨ (65 ≤ bt s 0 ∧ bt s 0 ≤ 90) then 3 else if mgs.any (fun m => decide (m.t = s.data.toList)) = true then 4 else 2 := by
  rw [sz_eq] at h0
  have h : s.data.toList ≠ [] := fun e => h0 (by rw [e]; rfl)
  have hs := stre_list s (s.data.toList.length - 1) 1 (by omega)
  have hle := (stre_le s (s.data.toList.length - 1) 1).2
  rw [sz_eq, bt_zero s h, ltt_eq]
  unfold wk
  rw [if_neg h, show (fun c => isL c || isD c) = al from rfl]
  simp only [self_iff, cap_eq]
  by_cases h20 : 20 < s.data.toList.length
  · rw [if_pos h20, if_pos h20]
  rw [if_neg h20, if_neg h20]
  cases hL : isL (s.data.toList.headD 0)
  · rfl
  have ha : s.data.toList.all al = (s.data.toList.drop 1).all al := by
    cases e : s.data.toList with
    | nil => exact absurd e h
    | cons x l =>
      rw [e] at hL
      have hx : al x = true := by unfold al; rw [show isL x = true from hL]; rfl
      rw [List.all_cons, hx]; rfl
  rw [ha, ← hs]
  by_cases hq : stre s (s.data.toList.length - 1) 1 = s.data.toList.length
  · have hl : ¬ stre s (s.data.toList.length - 1) 1 < s.data.toList.length := by omega
    simp only [decide_eq_true hq, hl, if_false, Bool.true_eq_false]
  · have hl : stre s (s.data.toList.length - 1) 1 < s.data.toList.length := by omega
    simp only [decide_eq_false hq, hl, if_false, if_true, Bool.true_eq_false]
end Pl
namespace Pl
def ba (l : List UInt8) : ByteArray := ⟨⟨l⟩⟩
theorem ba_list (s : ByteArray) : ba s.data.toList = s := rfl
theorem list_ba (l : List UInt8) : (ba l).data.toList = l := rfl
theorem ba_size (l : List UInt8) : (ba l).size = l.length := rfl
theorem ba_app (a b : List UInt8) : ba (a ++ b) = ba a ++ ba b := by
  apply ByteArray.ext
  simp [ba]
end Pl
/-- numbers that are read, in a block below B -/
def RdI (B : Nat) (w : World) (ao : Option Addr) (l : List Int) : Prop :=
  l = [] ∨ ∃ b off, b < B ∧ ao = some ⟨b, off, none⟩ ∧ ∀ (i : Nat) (x : Int), l[i]? = some x → w.cell? ⟨b, off + i, none⟩ = some (.int .i64 x)
theorem RdI.keep {B : Nat} {w w' : World} {ao : Option Addr} {l : List Int} (h : RdI B w ao l) (hb : Below B w w') : RdI B w' ao l := by
  rcases h with h | ⟨b, off, hB, rfl, hc⟩
  · exact .inl h
  · exact .inr ⟨b, off, hB, rfl, fun i x hi => (hb.cell (p := ⟨b, off + i, none⟩) hB).trans (hc i x hi)⟩
theorem RdI.up {B B' : Nat} {w : World} {ao : Option Addr} {l : List Int} (h : RdI B w ao l) (hb : B ≤ B') : RdI B' w ao l := by
  rcases h with h | ⟨b, off, hB, rfl, hc⟩
  · exact .inl h
  · exact .inr ⟨b, off, by omega, rfl, hc⟩
/-- a step in its seven cells -/
structure Stp (B : Nat) (w : World) (b o : Nat) (s : Pl.Sv) (ao : Option Addr) (cap : Nat) : Prop where
  k : w.cell? ⟨b, o, none⟩ = some (.int .i64 s.k)
  n : w.cell? ⟨b, o + 1, none⟩ = some (.slice ao s.nums.length cap)
  nm : w.cell? ⟨b, o + 2, none⟩ = some (.string (Pl.ba s.nm))
  fk : w.cell? ⟨b, o + 3, none⟩ = some (.int .i64 s.fn.k)
  fa : w.cell? ⟨b, o + 4, none⟩ = some (.int .i64 s.fn.a)
  fb : w.cell? ⟨b, o + 5, none⟩ = some (.int .i64 s.fn.b)
  fn : w.cell? ⟨b, o + 6, none⟩ = some (.string (Pl.ba s.fn.nm))
  rd : RdI B w ao s.nums
theorem Stp.keep {B : Nat} {w w' : World} {b o : Nat} {s : Pl.Sv} {ao : Option Addr} {cap : Nat} (h : Stp B w b o s ao cap) (hB : b < B) (hb : Below B w w') : Stp B w' b o s ao cap :=
  ⟨(hb.cell (p := ⟨b, o, none⟩) hB).trans h.k, (hb.cell (p := ⟨b, o + 1, none⟩) hB).trans h.n, (hb.cell (p := ⟨b, o + 2, none⟩) hB).trans h.nm, (hb.cell (p := ⟨b, o + 3, none⟩) hB).trans h.fk, (hb.cell (p := ⟨b, o + 4, none⟩) hB).trans h.fa, (hb.cell (p := ⟨b, o + 5, none⟩) hB).trans h.fb, (hb.cell (p := ⟨b, o + 6, none⟩) hB).trans h.fn, h.rd.keep hb⟩
theorem Stp.up {B B' : Nat} {w : World} {b o : Nat} {s : Pl.Sv} {ao : Option Addr} {cap : Nat} (h : Stp B w b o s ao cap) (hb : B ≤ B') : Stp B' w b o s ao cap :=
  ⟨h.k, h.n, h.nm, h.fk, h.fa, h.fb, h.fn, h.rd.up hb⟩
/-- code that is read -/
def RdS (B : Nat) (w : World) (ao : Option Addr) (c : List Pl.Sv) : Prop :=
  c = [] ∨ ∃ b off, b < B ∧ ao = some ⟨b, off, none⟩ ∧ ∀ (i : Nat) (s : Pl.Sv), c[i]? = some s → ∃ an cn, Stp B w b (off + i * 7) s an cn
theorem RdS.keep {B : Nat} {w w' : World} {ao : Option Addr} {c : List Pl.Sv} (h : RdS B w ao c) (hb : Below B w w') : RdS B w' ao c := by
  rcases h with h | ⟨b, off, hB, rfl, hc⟩
  · exact .inl h
  · refine .inr ⟨b, off, hB, rfl, fun i x hi => ?_⟩
    obtain ⟨an, cn, h⟩ := hc i x hi
    exact ⟨an, cn, h.keep hB hb⟩
theorem RdS.up {B B' : Nat} {w : World} {ao : Option Addr} {c : List Pl.Sv} (h : RdS B w ao c) (hb : B ≤ B') : RdS B' w ao c := by
  rcases h with h | ⟨b, off, hB, rfl, hc⟩
  · exact .inl h
  · refine .inr ⟨b, off, by omega, rfl, fun i x hi => ?_⟩
    obtain ⟨an, cn, h⟩ := hc i x hi
    exact ⟨an, cn, h.up hb⟩
/-- a guard in its two cells -/
structure Gd (B : Nat) (w : World) (b o : Nat) (g : Pl.Gv) (a1 a2 : Option Addr) (c1 c2 : Nat) : Prop where
  t : w.cell? ⟨b, o, none⟩ = some (.slice a1 g.test.length c1)
  h : w.cell? ⟨b, o + 1, none⟩ = some (.slice a2 g.thn.length c2)
  rt : RdS B w a1 g.test
  rh : RdS B w a2 g.thn
theorem Gd.keep {B : Nat} {w w' : World} {b o : Nat} {g : Pl.Gv} {a1 a2 : Option Addr} {c1 c2 : Nat} (h : Gd B w b o g a1 a2 c1 c2) (hB : b < B) (hb : Below B w w') : Gd B w' b o g a1 a2 c1 c2 :=
  ⟨(hb.cell (p := ⟨b, o, none⟩) hB).trans h.t, (hb.cell (p := ⟨b, o + 1, none⟩) hB).trans h.h, h.rt.keep hb, h.rh.keep hb⟩
theorem Gd.up {B B' : Nat} {w : World} {b o : Nat} {g : Pl.Gv} {a1 a2 : Option Addr} {c1 c2 : Nat} (h : Gd B w b o g a1 a2 c1 c2) (hb : B ≤ B') : Gd B' w b o g a1 a2 c1 c2 :=
  ⟨h.t, h.h, h.rt.up hb, h.rh.up hb⟩
def RdG (B : Nat) (w : World) (ao : Option Addr) (c : List Pl.Gv) : Prop :=
  c = [] ∨ ∃ b off, b < B ∧ ao = some ⟨b, off, none⟩ ∧ ∀ (i : Nat) (g : Pl.Gv), c[i]? = some g → ∃ a1 a2 c1 c2, Gd B w b (off + i * 2) g a1 a2 c1 c2
theorem RdG.keep {B : Nat} {w w' : World} {ao : Option Addr} {c : List Pl.Gv} (h : RdG B w ao c) (hb : Below B w w') : RdG B w' ao c := by
  rcases h with h | ⟨b, off, hB, rfl, hc⟩
  · exact .inl h
  · refine .inr ⟨b, off, hB, rfl, fun i x hi => ?_⟩
    obtain ⟨a1, a2, c1, c2, h⟩ := hc i x hi
    exact ⟨a1, a2, c1, c2, h.keep hB hb⟩
theorem RdG.up {B B' : Nat} {w : World} {ao : Option Addr} {c : List Pl.Gv} (h : RdG B w ao c) (hb : B ≤ B') : RdG B' w ao c := by
  rcases h with h | ⟨b, off, hB, rfl, hc⟩
  · exact .inl h
  · refine .inr ⟨b, off, by omega, rfl, fun i x hi => ?_⟩
    obtain ⟨a1, a2, c1, c2, h⟩ := hc i x hi
    exact ⟨a1, a2, c1, c2, h.up hb⟩
/-- a statement in its four cells -/
structure Sm (B : Nat) (w : World) (b o : Nat) (s : Pl.Tv) (a1 a2 : Option Addr) (c1 c2 : Nat) : Prop where
  k : w.cell? ⟨b, o, none⟩ = some (.int .i64 s.k)
  nm : w.cell? ⟨b, o + 1, none⟩ = some (.string (Pl.ba s.nm))
  c : w.cell? ⟨b, o + 2, none⟩ = some (.slice a1 s.code.length c1)
  g : w.cell? ⟨b, o + 3, none⟩ = some (.slice a2 s.gs.length c2)
  rc : RdS B w a1 s.code
  rg : RdG B w a2 s.gs
theorem Sm.keep {B : Nat} {w w' : World} {b o : Nat} {s : Pl.Tv} {a1 a2 : Option Addr} {c1 c2 : Nat} (h : Sm B w b o s a1 a2 c1 c2) (hB : b < B) (hb : Below B w w') : Sm B w' b o s a1 a2 c1 c2 :=
  ⟨(hb.cell (p := ⟨b, o, none⟩) hB).trans h.k, (hb.cell (p := ⟨b, o + 1, none⟩) hB).trans h.nm, (hb.cell (p := ⟨b, o + 2, none⟩) hB).trans h.c, (hb.cell (p := ⟨b, o + 3, none⟩) hB).trans h.g, h.rc.keep hb, h.rg.keep hb⟩
theorem Sm.up {B B' : Nat} {w : World} {b o : Nat} {s : Pl.Tv} {a1 a2 : Option Addr} {c1 c2 : Nat} (h : Sm B w b o s a1 a2 c1 c2) (hb : B ≤ B') : Sm B' w b o s a1 a2 c1 c2 :=
  ⟨h.k, h.nm, h.c, h.g, h.rc.up hb, h.rg.up hb⟩
def RdP (B : Nat) (w : World) (ao : Option Addr) (p : List Pl.Tv) : Prop :=
  p = [] ∨ ∃ b off, b < B ∧ ao = some ⟨b, off, none⟩ ∧ ∀ (i : Nat) (s : Pl.Tv), p[i]? = some s → ∃ a1 a2 c1 c2, Sm B w b (off + i * 4) s a1 a2 c1 c2
theorem RdP.keep {B : Nat} {w w' : World} {ao : Option Addr} {c : List Pl.Tv} (h : RdP B w ao c) (hb : Below B w w') : RdP B w' ao c := by
  rcases h with h | ⟨b, off, hB, rfl, hc⟩
  · exact .inl h
  · refine .inr ⟨b, off, hB, rfl, fun i x hi => ?_⟩
    obtain ⟨a1, a2, c1, c2, h⟩ := hc i x hi
    exact ⟨a1, a2, c1, c2, h.keep hB hb⟩
theorem RdP.up {B B' : Nat} {w : World} {ao : Option Addr} {c : List Pl.Tv} (h : RdP B w ao c) (hb : B ≤ B') : RdP B' w ao c := by
  rcases h with h | ⟨b, off, hB, rfl, hc⟩
  · exact .inl h
  · refine .inr ⟨b, off, by omega, rfl, fun i x hi => ?_⟩
    obtain ⟨a1, a2, c1, c2, h⟩ := hc i x hi
    exact ⟨a1, a2, c1, c2, h.up hb⟩
/-- what is read in blocks with P stays as it is, and they have Q -/
def Mv (P Q : Nat → Prop) (w w' : World) : Prop := ∀ b, P b → Q b ∧ ∀ o, w'.cell? ⟨b, o, none⟩ = w.cell? ⟨b, o, none⟩
def XI (P : Nat → Prop) (w : World) (ao : Option Addr) (l : List Int) : Prop :=
  l = [] ∨ ∃ b off, P b ∧ ao = some ⟨b, off, none⟩ ∧ ∀ (i : Nat) (x : Int), l[i]? = some x → w.cell? ⟨b, off + i, none⟩ = some (.int .i64 x)
theorem XI.mv {P Q : Nat → Prop} {w w' : World} {ao : Option Addr} {l : List Int} (h : XI P w ao l) (m : Mv P Q w w') : XI Q w' ao l := by
  rcases h with h | ⟨b, off, hB, rfl, hc⟩
  · exact .inl h
  · exact .inr ⟨b, off, (m b hB).1, rfl, fun i x hi => ((m b hB).2 _).trans (hc i x hi)⟩
def QS (P : Nat → Prop) (w : World) (b o : Nat) (s : Pl.Sv) : Prop :=
  ∃ an cn, w.cell? ⟨b, o, none⟩ = some (.int .i64 s.k) ∧ w.cell? ⟨b, o + 1, none⟩ = some (.slice an s.nums.length cn) ∧ w.cell? ⟨b, o + 2, none⟩ = some (.string (Pl.ba s.nm)) ∧ w.cell? ⟨b, o + 3, none⟩ = some (.int .i64 s.fn.k) ∧ w.cell? ⟨b, o + 4, none⟩ = some (.int .i64 s.fn.a) ∧ w.cell? ⟨b, o + 5, none⟩ = some (.int .i64 s.fn.b) ∧ w.cell? ⟨b, o + 6, none⟩ = some (.string (Pl.ba s.fn.nm)) ∧ XI P w an s.nums
theorem QS.mv {P Q : Nat → Prop} {w w' : World} {b o : Nat} {s : Pl.Sv} (h : QS P w b o s) (m : Mv P Q w w') (hc : ∀ j, j < 7 → w'.cell? ⟨b, o + j, none⟩ = w.cell? ⟨b, o + j, none⟩) : QS Q w' b o s := by
  obtain ⟨an, cn, h0, h1, h2, h3, h4, h5, h6, h7⟩ := h
  exact ⟨an, cn, (hc 0 (by omega)).trans h0, (hc 1 (by omega)).trans h1, (hc 2 (by omega)).trans h2, (hc 3 (by omega)).trans h3, (hc 4 (by omega)).trans h4, (hc 5 (by omega)).trans h5, (hc 6 (by omega)).trans h6, h7.mv m⟩
/-- records of z cells that are read -/
def XL {α : Type} (Q : (Nat → Prop) → World → Nat → Nat → α → Prop) (z : Nat) (P : Nat → Prop) (w : World) (ao : Option Addr) (c : List α) : Prop :=
  c = [] ∨ ∃ b off, P b ∧ ao = some ⟨b, off, none⟩ ∧ ∀ (i : Nat) (s : α), c[i]? = some s → Q P w b (off + i * z) s
/-- a record moves with its memory -/
structure Moves {α : Type} (Q : (Nat → Prop) → World → Nat → Nat → α → Prop) (z : Nat) : Prop where
  go : ∀ {P P' : Nat → Prop} {w w' : World} {b o : Nat} {s : α}, Q P w b o s → Mv P P' w w' → (∀ j, j < z → w'.cell? ⟨b, o + j, none⟩ = w.cell? ⟨b, o + j, none⟩) → Q P' w' b o s
theorem XL.mv {α : Type} {Q : (Nat → Prop) → World → Nat → Nat → α → Prop} {z : Nat} (mQ : Moves Q z) {P P' : Nat → Prop} {w w' : World} {ao : Option Addr} {c : List α} (h : XL Q z P w ao c) (m : Mv P P' w w') : XL Q z P' w' ao c := by
  rcases h with h | ⟨b, off, hB, rfl, hc⟩
  · exact .inl h
  · exact .inr ⟨b, off, (m b hB).1, rfl, fun i x hi => mQ.go (hc i x hi) m (fun j _ => (m b hB).2 _)⟩
theorem mS : Moves QS 7 := ⟨fun h m hc => h.mv m hc⟩
def QG (P : Nat → Prop) (w : World) (b o : Nat) (g : Pl.Gv) : Prop :=
  ∃ a1 c1 a2 c2, w.cell? ⟨b, o, none⟩ = some (.slice a1 g.test.length c1) ∧ w.cell? ⟨b, o + 1, none⟩ = some (.slice a2 g.thn.length c2) ∧ XL QS 7 P w a1 g.test ∧ XL QS 7 P w a2 g.thn
theorem mG : Moves QG 2 := ⟨fun h m hc => by
  obtain ⟨a1, c1, a2, c2, h0, h1, h2, h3⟩ := h
  exact ⟨a1, c1, a2, c2, (hc 0 (by omega)).trans h0, (hc 1 (by omega)).trans h1, h2.mv mS m, h3.mv mS m⟩⟩
def QT (P : Nat → Prop) (w : World) (b o : Nat) (s : Pl.Tv) : Prop :=
  ∃ a1 c1 a2 c2, w.cell? ⟨b, o, none⟩ = some (.int .i64 s.k) ∧ w.cell? ⟨b, o + 1, none⟩ = some (.string (Pl.ba s.nm)) ∧ w.cell? ⟨b, o + 2, none⟩ = some (.slice a1 s.code.length c1) ∧ w.cell? ⟨b, o + 3, none⟩ = some (.slice a2 s.gs.length c2) ∧ XL QS 7 P w a1 s.code ∧ XL QG 2 P w a2 s.gs
theorem mT : Moves QT 4 := ⟨fun h m hc => by
  obtain ⟨a1, c1, a2, c2, h0, h1, h2, h3, h4, h5⟩ := h
  exact ⟨a1, c1, a2, c2, (hc 0 (by omega)).trans h0, (hc 1 (by omega)).trans h1, (hc 2 (by omega)).trans h2, (hc 3 (by omega)).trans h3, h4.mv mS m, h5.mv mG m⟩⟩
/-- as the walks ask it -/
theorem XL.rdS {B : Nat} {w : World} {ao : Option Addr} {c : List Pl.Sv} (h : XL QS 7 (fun b => b < B) w ao c) : RdS B w ao c := by
  rcases h with h | ⟨b, off, hB, rfl, hc⟩
  · exact .inl h
  · refine .inr ⟨b, off, hB, rfl, fun i s hi => ?_⟩
    obtain ⟨an, cn, h0, h1, h2, h3, h4, h5, h6, h7⟩ := hc i s hi
    exact ⟨an, cn, h0, h1, h2, h3, h4, h5, h6, h7⟩
theorem XL.rdG {B : Nat} {w : World} {ao : Option Addr} {c : List Pl.Gv} (h : XL QG 2 (fun b => b < B) w ao c) : RdG B w ao c := by
  rcases h with h | ⟨b, off, hB, rfl, hc⟩
  · exact .inl h
  · refine .inr ⟨b, off, hB, rfl, fun i s hi => ?_⟩
    obtain ⟨a1, c1, a2, c2, h0, h1, h2, h3⟩ := hc i s hi
    exact ⟨a1, a2, c1, c2, h0, h1, h2.rdS, h3.rdS⟩
theorem XL.rdP {B : Nat} {w : World} {ao : Option Addr} {c : List Pl.Tv} (h : XL QT 4 (fun b => b < B) w ao c) : RdP B w ao c := by
  rcases h with h | ⟨b, off, hB, rfl, hc⟩
  · exact .inl h
  · refine .inr ⟨b, off, hB, rfl, fun i s hi => ?_⟩
    obtain ⟨a1, c1, a2, c2, h0, h1, h2, h3, h4, h5⟩ := hc i s hi
    exact ⟨a1, a2, c1, c2, h0, h1, h2, h3, h4.rdS, h5.rdG⟩
/-- blocks from B on -/
abbrev Fr (B : Nat) (w : World) : Nat → Prop := fun b => B ≤ b ∧ b < w.heap.size
theorem mv_below {B C : Nat} {w w' : World} (hb : Below C w w') (hC : w.heap.size ≤ C) {B' : Nat} (hB : B' ≤ B) : Mv (Fr B w) (Fr B' w') w w' := fun b h => ⟨⟨by omega, Nat.lt_of_lt_of_le h.2 hb.size⟩, fun o => hb.cell (p := ⟨b, o, none⟩) (by simp; omega)⟩
/-- z cells are put down -/
theorem setCells_size (b : Nat) : ∀ (vs : List Value) (o : Nat) (w : World), (w.setCells b o vs).heap.size = w.heap.size
  | [], _, _ => rfl
  | v :: r, o, w => by rw [World.setCells, setCells_size b r]; simp
theorem setCells_below {B : Nat} {a : World} (b : Nat) (hb : B ≤ b) : ∀ (vs : List Value) (o : Nat) (w : World), Below B a w → Below B a (w.setCells b o vs)
  | [], _, _, h => h
  | v :: r, o, w, h => by rw [World.setCells]; exact setCells_below b hb r _ _ (h.setCell hb v)
/-- a list is copied, record by record -/
structure Inv {α : Type} (Q : (Nat → Prop) → World → Nat → Nat → α → Prop) (z : Nat) (w : World) (c : List α) (n k : Nat) (wr : World) : Prop where
  bel : Below w.heap.size w wr
  lt : w.heap.size < wr.heap.size
  fz : ∀ o, wr.frozen? ⟨w.heap.size, o, none⟩ = false
  cl : ∀ o, o < n * z → ∃ v, wr.cell? ⟨w.heap.size, o, none⟩ = some v
  el : ∀ i s, i < k → c[i]? = some s → Q (Fr (w.heap.size + 1) wr) wr w.heap.size (i * z) s
theorem Inv.keep {α : Type} {Q : (Nat → Prop) → World → Nat → Nat → α → Prop} {z : Nat} (mQ : Moves Q z) {w : World} {c : List α} {n k : Nat} {wr w2 : World} (h : Inv Q z w c n k wr) (hb : Below wr.heap.size wr w2) : Inv Q z w c n k w2 :=
  ⟨h.bel.trans (hb.mono h.bel.size), Nat.lt_of_lt_of_le h.lt hb.size, fun o => (hb.frozen (p := ⟨w.heap.size, o, none⟩) h.lt).trans (h.fz o), fun o ho => by
    obtain ⟨v, hv⟩ := h.cl o ho
    exact ⟨v, (hb.cell (p := ⟨w.heap.size, o, none⟩) h.lt).trans hv⟩, fun i s hi hs => mQ.go (h.el i s hi hs) (mv_below hb (Nat.le_refl _) (Nat.le_refl _)) (fun j _ => hb.cell (p := ⟨w.heap.size, _, none⟩) h.lt)⟩
theorem Inv.put {α : Type} {Q : (Nat → Prop) → World → Nat → Nat → α → Prop} {z : Nat} (mQ : Moves Q z) {w : World} {c : List α} {n k : Nat} {w2 : World} (h : Inv Q z w c n k w2) (vs : List Value) (hz : vs.length = z) (hk : k < n) {s : α} (hs : c[k]? = some s)
    (hq : ∀ w3 : World, (∀ j (hj : j < vs.length), w3.cell? ⟨w.heap.size, k * z + j, none⟩ = some vs[j]) → Mv (Fr (w.heap.size + 1) w2) (Fr (w.heap.size + 1) w3) w2 w3 → Q (Fr (w.heap.size + 1) w3) w3 w.heap.size (k * z) s) :
    Inv Q z w c n (k + 1) (w2.setCells w.heap.size (k * z) vs) := by
  have hm : Mv (Fr (w.heap.size + 1) w2) (Fr (w.heap.size + 1) (w2.setCells w.heap.size (k * z) vs)) w2 (w2.setCells w.heap.size (k * z) vs) := fun b hb => ⟨⟨hb.1, by rw [setCells_size]; exact hb.2⟩, fun o => World.cell?_setCells_out _ _ _ _ _ (fun e _ => by have : b = w.heap.size := e; have := hb.1; omega)⟩
  have hzz : k * z + z ≤ n * z := by have := Nat.mul_le_mul_right z hk; rw [Nat.succ_mul] at this; exact this
  have hin : ∀ j (hj : j < vs.length), (w2.setCells w.heap.size (k * z) vs).cell? ⟨w.heap.size, k * z + j, none⟩ = some vs[j] := fun j hj => World.cell?_setCells_in _ _ _ _ (fun j hj => by
    obtain ⟨v, hv⟩ := h.cl (k * z + j) (by omega)
    rw [hv]; rfl) j hj
  refine ⟨setCells_below _ (Nat.le_refl _) _ _ _ h.bel, by rw [setCells_size]; exact h.lt, fun o => by rw [World.frozen?_setCells]; exact h.fz o, fun o ho => ?_, fun i t hi ht => ?_⟩
  · by_cases hr : k * z ≤ o ∧ o < k * z + z
    · have := hin (o - k * z) (by omega)
      rw [show k * z + (o - k * z) = o by omega] at this
      exact ⟨_, this⟩
    · obtain ⟨v, hv⟩ := h.cl o ho
      exact ⟨v, (World.cell?_setCells_out _ _ _ _ _ (fun _ _ => by simp only; omega)).trans hv⟩
  · by_cases hik : i = k
    · subst hik
      obtain rfl : s = t := Option.some.inj (hs.symm.trans ht)
      exact hq _ hin hm
    · have hlt : i < k := by omega
      have : i * z + z ≤ k * z := by have := Nat.mul_le_mul_right z hlt; rw [Nat.succ_mul] at this; exact this
      refine mQ.go (h.el i t hlt ht) hm (fun j hj => World.cell?_setCells_out _ _ _ _ _ (fun _ _ => by simp only; omega))
theorem Inv.done {α : Type} {Q : (Nat → Prop) → World → Nat → Nat → α → Prop} {z : Nat} (mQ : Moves Q z) {w : World} {c : List α} {n k : Nat} {w2 : World} (h : Inv Q z w c n k w2) (hk : c.length ≤ k) : XL Q z (Fr w.heap.size w2) w2 (some ⟨w.heap.size, 0, none⟩) c := by
  refine .inr ⟨w.heap.size, 0, ⟨Nat.le_refl _, h.lt⟩, rfl, fun i s hs => ?_⟩
  have hi : i < c.length := (List.getElem?_eq_some_iff.1 hs).1
  rw [Nat.zero_add]
  exact mQ.go (h.el i s (by omega) hs) (fun b hb => ⟨⟨by have := hb.1; omega, hb.2⟩, fun _ => rfl⟩) (fun _ _ => rfl)
theorem Inv.made {α : Type} {Q : (Nat → Prop) → World → Nat → Nat → α → Prop} {z : Nat} {w : World} {c : List α} {n : Nat} {w1 : World} {t : TypeId} {xs : List Value} (ho : w1.ownsRow w.heap.size t z (.slice (some ⟨w.heap.size, 0, none⟩) n n) n xs) (hl : xs.length = n * z) (hb : Below w.heap.size w w1) : Inv Q z w c n 0 w1 :=
  ⟨hb, (ho.lt _ rfl).2, fun o => ho.frozenAt o, fun o hlt => ⟨_, (ho.cellAt o hlt).trans (List.getElem?_eq_getElem (by omega))⟩, fun i s hi => absurd hi (by omega)⟩
end Go.Proofs.YtljkolffjjhgeaaDoor
