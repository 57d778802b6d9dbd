import Derived.Test.YtbmkbplgncoapaaDoorCu
namespace Go.Proofs.YtbmkbplgncoapaaDoor
open Go.RowKit
set_option linter.unusedVariables false

theorem numF_next (l : List UInt8) (k v dg : Nat) (hk : k < l.length) : Pl.numF k v dg (l.drop k) = if 48 ≤ (l.getD k 0).toNat ∧ (l.getD k 0).toNat ≤ 57 ∧ dg < 10 then Pl.numF (k + 1) (v * 10 + ((l.getD k 0).toNat - 48)) (dg + 1) (l.drop (k + 1)) else if 0 < k ∨ ¬ (l.getD k 0).toNat = 45 then none else Pl.numF (k + 1) v dg (l.drop (k + 1)) := by
  rw [List.drop_eq_getElem_cons hk, Pl.numF, List.getD_eq_getElem?_getD, List.getElem?_eq_getElem hk]
  rfl
theorem num_of_none {s : List UInt8} (h : Pl.numF 0 0 0 s = none) : Pl.num s = none := by unfold Pl.num; rw [h]
theorem num_of_some {s : List UInt8} {v dg : Nat} (h : Pl.numF 0 0 0 s = some (v, dg)) : Pl.num s = if 0 < dg ∧ Lib.itoa (Pl.sgn s v) = s then some (Pl.sgn s v) else none := by unfold Pl.num; rw [h]
theorem ten_le {v dg : Nat} (h : v < 10 ^ dg) (hd : dg ≤ 10) : v ≤ 9999999999 := by
  have h1 : 10 ^ dg ≤ 10 ^ 10 := Nat.pow_le_pow_right (by omega) hd
  have h2 : (10 : Nat) ^ 10 = 10000000000 := by decide
  omega
theorem ten_le9 {v dg : Nat} (h : v < 10 ^ dg) (hd : dg < 10) : v ≤ 999999999 := by
  have h1 : 10 ^ dg ≤ 10 ^ 9 := Nat.pow_le_pow_right (by omega) (by omega)
  have h2 : (10 : Nat) ^ 9 = 1000000000 := by decide
  omega
theorem ten_next {v dg d : Nat} (h : v < 10 ^ dg) (hd : d ≤ 9) : v * 10 + d < 10 ^ (dg + 1) := by rw [Nat.pow_succ]; omega

/-- what l1Num says -/
def NumPost (w : World) (s : ByteArray) (e : Ending) (w' : World) : Prop :=
  Below w.heap.size w w' ∧ ∃ (v : Int) (ok : Bool), e = .returned (.tuple #[.int .i64 v, .bool ok]) ∧ ((ok = true ∧ Pl.num (bl s) = some v) ∨ (ok = false ∧ Pl.num (bl s) = none))

theorem np_yes {w w3 : World} {s : ByteArray} {x : Int} (hb : Below w.heap.size w w3) (h : Pl.num (bl s) = some x) : NumPost w s (.returned (.tuple #[.int .i64 x, .bool true])) w3 := ⟨hb, x, true, rfl, .inl ⟨rfl, h⟩⟩
theorem np_no {w w3 : World} {s : ByteArray} (x : Int) (hb : Below w.heap.size w w3) (h : Pl.num (bl s) = none) : NumPost w s (.returned (.tuple #[.int .i64 x, .bool false])) w3 := ⟨hb, x, false, rfl, .inr ⟨rfl, h⟩⟩

theorem ba_eq {a b : ByteArray} : (a.toList == b.toList) = decide (a = b) := by
  rw [ByteArray.toList_eq, ByteArray.toList_eq]
  by_cases h : a = b
  · subst h; simp
  · have : ¬ a.data.toList = b.data.toList := fun e => h (by cases a; cases b; simp at e ⊢; exact e)
    rw [decide_eq_false h]; exact beq_eq_false_iff_ne.2 this

theorem wrd_bl {x : Int} {s : ByteArray} : wrd x = s ↔ Lib.itoa x = bl s := by
  constructor
  · rintro rfl; rfl
  · intro h
    apply ByteArray.ext
    show (Lib.itoa x).toArray = s.data
    rw [h]

set_option maxRecDepth 100000 in
set_option maxHeartbeats 4000000 in
/-- the last step of l1Num: x is what was read, dg how many digits -/
theorem l1Num_any (s : ByteArray) (w : World) (hl : s.size ≤ 1048576) : Calls Tryd.prog 91 #[.string s] w (NumPost w s) := by
  have BR := hideP (Below.refl w.heap.size w)
  go_enter Tryd.func91, Tryd.ntmps91
  go_wp2_with fail
  go_loop [4, 5, 6] (fun v dg i => ∃ k vn dn : Nat, k ≤ s.size ∧ i = .int .i64 (k : Int) ∧ v = .int .i64 (vn : Int) ∧ dg = .int .i64 (dn : Int) ∧ dn ≤ 10 ∧ dn ≤ k ∧ Hid (vn < 10 ^ dn) ∧ Hid (Pl.numF 0 0 0 (bl s) = Pl.numF k vn dn ((bl s).drop k))) (fun _ _ i => s.size - (intOf i).toNat)
  case atStart => exact ⟨0, 0, 0, Nat.zero_le _, rfl, rfl, rfl, by omega, Nat.le_refl _, by show _ < _; simp, rfl⟩
  case round =>
    obtain ⟨k, vn, dn, hk, rfl, rfl, rfl, hdn, hdk, hv, hF⟩ := hrel
    by_cases hlt : k < s.size
    · have hlt' : (k : Int) < (s.size : Int) := by omega
      have hix := bt_idx s k hlt
      have HN : Hid (Pl.numF 0 0 0 (bl s) = _) := hF.out.trans (numF_next (bl s) k vn dn (by rw [bl_len]; exact hlt))
      generalize (s.data.toList.getD k 0).toNat = x at *
      by_cases hA : 48 ≤ x ∧ x ≤ 57 ∧ dn < 10
      · have a1 : (48 : Int) ≤ x := by omega
        have a2 : (x : Int) ≤ 57 := by omega
        have a3 : (dn : Int) < 10 := by omega
        have a4 := ten_le9 hv.out hA.2.2
        have HZ : Hid (Pl.numF 0 0 0 (bl s) = Pl.numF (k + 1) (vn * 10 + (x - 48)) (dn + 1) ((bl s).drop (k + 1))) := by
          show _ = _
          rw [HN.out, if_pos hA]
        have HV : Hid (vn * 10 + (x - 48) < 10 ^ (dn + 1)) := ten_next hv.out (by omega)
        have hdn' : dn + 1 ≤ 10 := by omega
        clear HN hF hv hA
        go_wp2_with fail
        go_round
        case rel => exact ⟨k + 1, vn * 10 + (x - 48), dn + 1, by omega, by go_num, by go_num, by go_num, hdn', by omega, HV, HZ⟩
        case measure => simp [intOf]; omega
      · by_cases hB : 0 < k ∨ ¬ x = 45
        · have HZ : Hid (Pl.numF 0 0 0 (bl s) = none) := by
            show _ = _
            rw [HN.out, if_neg hA, if_pos hB]
          clear HN hF hv
          by_cases h48 : 48 ≤ x
          · have a1 : (48 : Int) ≤ x := by omega
            by_cases h57 : x ≤ 57
            · have a2 : (x : Int) ≤ 57 := by omega
              have a3 : ¬ (dn : Int) < 10 := by omega
              have a4 : (0 : Int) < k := by omega
              clear hA hB
              go_wp2_with fail
              go_ret2; exact np_no _ BR.out (num_of_none HZ.out)
            · have a2 : ¬ (x : Int) ≤ 57 := by omega
              by_cases hk0 : 0 < k
              · have a4 : (0 : Int) < k := by omega
                clear hA hB
                go_wp2_with fail
                go_ret2; exact np_no _ BR.out (num_of_none HZ.out)
              · have a4 : ¬ (0 : Int) < k := by omega
                have a5 : ((x : Int) != 45) = true := by rw [bne_iff_ne]; omega
                clear hA hB
                go_wp2_with fail
                go_ret2; exact np_no _ BR.out (num_of_none HZ.out)
          · have a1 : ¬ (48 : Int) ≤ x := by omega
            by_cases hk0 : 0 < k
            · have a4 : (0 : Int) < k := by omega
              clear hA hB
              go_wp2_with fail
              go_ret2; exact np_no _ BR.out (num_of_none HZ.out)
            · have a4 : ¬ (0 : Int) < k := by omega
              have a5 : ((x : Int) != 45) = true := by rw [bne_iff_ne]; omega
              clear hA hB
              go_wp2_with fail
              go_ret2; exact np_no _ BR.out (num_of_none HZ.out)
        · have HZ : Hid (Pl.numF 0 0 0 (bl s) = Pl.numF (k + 1) vn dn ((bl s).drop (k + 1))) := by
            show _ = _
            rw [HN.out, if_neg hA, if_neg hB]
          have a1 : ¬ (48 : Int) ≤ x := by omega
          have a4 : ¬ (0 : Int) < k := by omega
          have a5 : ((x : Int) != 45) = false := by rw [bne_eq_false_iff_eq]; omega
          clear HN hF hA hB
          obtain rfl : k = 0 := by omega
          obtain rfl : dn = 0 := by omega
          obtain rfl : x = 45 := by rw [bne_eq_false_iff_eq] at a5; omega
          clear a1 a4 a5
          have hix0 : ∀ w, (Instr.index 9 (.string s) (.int .i64 0)).run Tryd.prog w = .ok (.int .u8 45) w := hix
          clear hix
          go_wp2_with fail
          go_round
          case rel => exact ⟨1, vn, 0, by omega, rfl, rfl, rfl, by omega, by omega, hv, HZ⟩
          case measure => simp [intOf]; omega
    · have hlt' : ¬ (k : Int) < (s.size : Int) := by omega
      have v10 := ten_le hv.out hdn
      have HE : Hid (Pl.numF 0 0 0 (bl s) = some (vn, dn)) := by
        show _ = _
        rw [hF.out, List.drop_eq_nil_of_le (by rw [bl_len]; omega)]
        rfl
      have HNum := hideP (num_of_some HE.out)
      clear hF hv HE
      have KD : Hid (∀ x : Int, -9999999999 ≤ x → x ≤ 9999999999 → ∀ w, Calls Tryd.prog 56 #[.int .i64 x] w fun e w' => e = .returned (.string (wrd x)) ∧ Below w.heap.size w w') := fun x h0 h1 w => l1Dec_any x w (by omega) (by omega)
      by_cases hneg : (bl s).head? = some 45
      · have hsz : 0 < s.size := by
          rw [← bl_len]
          cases h : bl s with
          | nil => rw [h] at hneg; cases hneg
          | cons b r => simp
        have hsz' : (0 : Int) < (s.size : Int) := by omega
        have hix : ∀ w, (Instr.index 9 (.string s) (.int .i64 0)).run Tryd.prog w = .ok (.int .u8 45) w := fun w => by
          have := bt_idx s 0 hsz w
          have e : s.data.toList.getD 0 0 = 45 := by
            cases h : bl s with
            | nil => rw [h] at hneg; cases hneg
            | cons b r => rw [h] at hneg; have : s.data.toList = b :: r := h; rw [this]; simpa using hneg
          rw [e] at this
          exact this
        have ES : Hid (Pl.sgn (bl s) vn = -(vn : Int)) := by show _ = _; unfold Pl.sgn; rw [if_pos hneg]
        rw [ES.out] at HNum
        clear hneg
        by_cases hd : 0 < dn
        · have hd' : (0 : Int) < (dn : Int) := by omega
          go_wp2_with fail
          refine (KD.out (-(vn : Int)) (by omega) (by omega) _).mono ?_
          rintro e w3 ⟨rfl, hb3⟩
          have B3 := hideP hb3
          clear hb3
          by_cases heq : wrd (-(vn : Int)) = s
          · have HQ := hideP heq
            have hq : ((wrd (-(vn : Int))).toList == s.toList) = true := by rw [ba_eq]; exact decide_eq_true heq
            have HR : Hid (Pl.num (bl s) = some (-(vn : Int))) := by
              show _ = _
              rw [HNum.out, if_pos ⟨hd, wrd_bl.1 heq⟩]
            clear heq HNum
            generalize wrd (-(vn : Int)) = sx at *
            go_wp2_with fail
            go_ret2; exact np_yes B3.out HR.out
          · have HQ := hideP heq
            have hq : ((wrd (-(vn : Int))).toList == s.toList) = false := by rw [ba_eq]; exact decide_eq_false heq
            have HR : Hid (Pl.num (bl s) = none) := by
              show _ = _
              rw [HNum.out, if_neg (fun h => heq (wrd_bl.2 h.2))]
            clear heq HNum
            generalize wrd (-(vn : Int)) = sx at *
            go_wp2_with fail
            go_ret2; exact np_no _ B3.out HR.out
        · have hd' : ¬ (0 : Int) < (dn : Int) := by omega
          have HR : Hid (Pl.num (bl s) = none) := by
            show _ = _
            rw [HNum.out, if_neg (fun h => hd h.1)]
          clear HNum
          go_wp2_with fail
          go_ret2; exact np_no _ BR.out HR.out
      · have ES : Hid (Pl.sgn (bl s) vn = (vn : Int)) := by show _ = _; unfold Pl.sgn; rw [if_neg hneg]
        rw [ES.out] at HNum
        by_cases hsz : 0 < s.size
        · have hsz' : (0 : Int) < (s.size : Int) := by omega
          have hix : ∀ w, (Instr.index 9 (.string s) (.int .i64 0)).run Tryd.prog w = .ok (.int .u8 ((s.data.toList.getD 0 0).toNat : Int)) w := bt_idx s 0 hsz
          have e45 : (((s.data.toList.getD 0 0).toNat : Int) == 45) = false := by
            rw [beq_eq_false_iff_ne]
            intro e
            apply hneg
            have e2 : s.data.toList.getD 0 0 = 45 := UInt8.toNat_inj.1 (Int.ofNat_inj.1 e)
            cases h : bl s with
            | nil => have h2 := bl_len s; rw [h] at h2; simp at h2; omega
            | cons b r => have h3 : s.data.toList = b :: r := h; rw [h3] at e2; simpa using e2
          generalize ((s.data.toList.getD 0 0).toNat : Int) = x0 at *
          clear hneg
          by_cases hd : 0 < dn
          · have hd' : (0 : Int) < (dn : Int) := by omega
            go_wp2_with fail
            refine (KD.out (vn : Int) (by omega) (by omega) _).mono ?_
            rintro e w3 ⟨rfl, hb3⟩
            have B3 := hideP hb3
            clear hb3
            by_cases heq : wrd (vn : Int) = s
            · have HQ := hideP heq
              have hq : ((wrd (vn : Int)).toList == s.toList) = true := by rw [ba_eq]; exact decide_eq_true heq
              have HR : Hid (Pl.num (bl s) = some (vn : Int)) := by
                show _ = _
                rw [HNum.out, if_pos ⟨hd, wrd_bl.1 heq⟩]
              clear heq HNum
              generalize wrd (vn : Int) = sx at *
              go_wp2_with fail
              go_ret2; exact np_yes B3.out HR.out
            · have HQ := hideP heq
              have hq : ((wrd (vn : Int)).toList == s.toList) = false := by rw [ba_eq]; exact decide_eq_false heq
              have HR : Hid (Pl.num (bl s) = none) := by
                show _ = _
                rw [HNum.out, if_neg (fun h => heq (wrd_bl.2 h.2))]
              clear heq HNum
              generalize wrd (vn : Int) = sx at *
              go_wp2_with fail
              go_ret2; exact np_no _ B3.out HR.out
          · have hd' : ¬ (0 : Int) < (dn : Int) := by omega
            have HR : Hid (Pl.num (bl s) = none) := by
              show _ = _
              rw [HNum.out, if_neg (fun h => hd h.1)]
            clear HNum
            go_wp2_with fail
            go_ret2; exact np_no _ BR.out HR.out
        · have hsz' : ¬ (0 : Int) < (s.size : Int) := by omega
          clear hneg
          by_cases hd : 0 < dn
          · have hd' : (0 : Int) < (dn : Int) := by omega
            go_wp2_with fail
            refine (KD.out (vn : Int) (by omega) (by omega) _).mono ?_
            rintro e w3 ⟨rfl, hb3⟩
            have B3 := hideP hb3
            clear hb3
            by_cases heq : wrd (vn : Int) = s
            · have HQ := hideP heq
              have hq : ((wrd (vn : Int)).toList == s.toList) = true := by rw [ba_eq]; exact decide_eq_true heq
              have HR : Hid (Pl.num (bl s) = some (vn : Int)) := by
                show _ = _
                rw [HNum.out, if_pos ⟨hd, wrd_bl.1 heq⟩]
              clear heq HNum
              generalize wrd (vn : Int) = sx at *
              go_wp2_with fail
              go_ret2; exact np_yes B3.out HR.out
            · have HQ := hideP heq
              have hq : ((wrd (vn : Int)).toList == s.toList) = false := by rw [ba_eq]; exact decide_eq_false heq
              have HR : Hid (Pl.num (bl s) = none) := by
                show _ = _
                rw [HNum.out, if_neg (fun h => heq (wrd_bl.2 h.2))]
              clear heq HNum
              generalize wrd (vn : Int) = sx at *
              go_wp2_with fail
              go_ret2; exact np_no _ B3.out HR.out
          · have hd' : ¬ (0 : Int) < (dn : Int) := by omega
            have HR : Hid (Pl.num (bl s) = none) := by
              show _ = _
              rw [HNum.out, if_neg (fun h => hd h.1)]
            clear HNum
            go_wp2_with fail
            go_ret2; exact np_no _ BR.out HR.out

end Go.Proofs.YtbmkbplgncoapaaDoor
