import Derived.Test.YthhfpcdbgndioaaGreatDoorMng
import Derived.Test.YthhfpcdbgndioaaGreatDoorEcd
namespace Go.Proofs.YthhfpcdbgndioaaGreatDoor
open Go.RowKit
set_option linter.unusedVariables false
set_option maxRecDepth 100000
theorem eq130 (a b c d : Int) (w : World) : (Op.equalIn 10000 140 (.agg #[.int .i64 a, .int .i64 b, .int .i64 0, .string ⟨#[]⟩, .int .i64 c, .int .i64 d, .int .i64 0, .string ⟨#[]⟩]) (.agg #[.int .i64 0, .int .i64 0, .int .i64 0, .string ⟨#[]⟩, .int .i64 0, .int .i64 0, .int .i64 0, .string ⟨#[]⟩])).run Tryz.prog w = .ok (decide (a = 0) && decide (b = 0) && decide (c = 0) && decide (d = 0)) w := by
  have u3 := Tryz.underlying3
  have a3 := Tryz.isAgg3
  have z3 := Tryz.sizeOf3
  have u9 := Tryz.underlying9
  have a9 := Tryz.isAgg9
  have z9 := Tryz.sizeOf9
  have a78 := Tryz.isAgg38
  have z78 := Tryz.sizeOf38
  have hS : Tryz.prog.underlying 140 = some (.struct (Tryz.prog.fieldsOf 140)) := by kernel_rfl
  have hp : Tryz.prog.stoodInHeld 140 = false := by kernel_rfl
  have hS2 : Tryz.prog.underlying 38 = some (.struct (Tryz.prog.fieldsOf 38)) := by kernel_rfl
  have hp2 : Tryz.prog.stoodInHeld 38 = false := by kernel_rfl
  have e2 : ∀ (x y : Int) (w : World), (Op.equalIn 9999 38 (.agg #[.int .i64 x, .int .i64 y, .int .i64 0, .string ⟨#[]⟩]) (.agg #[.int .i64 0, .int .i64 0, .int .i64 0, .string ⟨#[]⟩])).run Tryz.prog w = .ok (decide (x = 0) && decide (y = 0)) w := by
    intro x y w
    rw [show (9999 : Nat) = 9998 + 1 from rfl, run_equalIn_agg w 9998 38 _ _ hS2 hp2]
    simp only [Program.fieldsOf, Tryz.underlying38]
    go_simp
    by_cases h1 : x = 0 <;> by_cases h2 : y = 0 <;> simp [h1, h2]
  rw [show (10000 : Nat) = 9999 + 1 from rfl, run_equalIn_agg w 9999 140 _ _ hS hp]
  simp only [Program.fieldsOf, Tryz.underlying140]
  clear hS2
  go_simp
  by_cases h1 : a = 0 <;> by_cases h2 : b = 0 <;> by_cases h3 : c = 0 <;> by_cases h4 : d = 0 <;> simp [h1, h2, h3, h4]
namespace Pl
theorem rowOf_any (l : List UInt8) : (rowOf l).isSome = mgs.any (fun m => decide (m.t = l)) := by
  unfold rowOf
  rw [Bool.eq_iff_iff, List.find?_isSome, List.any_eq_true]
theorem row_nz {l : List UInt8} {m : Mg} (h : rowOf l = some m) : (decide (m.ok = 0) && decide (m.ow = 0) && decide (m.tk = 0) && decide (m.tw = 0)) = false := by
  have hm := List.mem_of_find?_eq_some h
  have : ∀ m ∈ mgs, (decide (m.ok = 0) && decide (m.ow = 0) && decide (m.tk = 0) && decide (m.tw = 0)) = false := by decide
  exact this m hm
end Pl
/-- impl.hasMeaning -/
theorem hasMeaning_any (s : ByteArray) (mb mo cp : Nat) (w : World) (hm : Mt w mb mo cp) :
    Calls Tryz.prog 74 #[.string s] w fun e w' => e = .returned (.bool (Pl.mgs.any (fun m => decide (m.t = s.data.toList)))) ∧ Below w.heap.size w w' := by
  have K := hideP (usesOf_any s mb mo cp w hm)
  rw [← Pl.rowOf_any]
  cases h : Pl.rowOf s.data.toList with
  | none =>
    rw [usV_none h] at K
    have heq := eq130 0 0 0 0
    clear h hm
    go_enter Tryz.func74, Tryz.ntmps74
    go_wp2_with (go_at_call 91; refine K.out.mono ?_; rintro e w' ⟨rfl, hb⟩)
    go_ret
    exact ⟨rfl, hb⟩
  | some m =>
    rw [usV_some h] at K
    have heq := eq130 m.ok m.ow m.tk m.tw
    rw [Pl.row_nz h] at heq
    clear h hm
    go_enter Tryz.func74, Tryz.ntmps74
    go_wp2_with (go_at_call 91; refine K.out.mono ?_; rintro e w' ⟨rfl, hb⟩)
    go_ret
    exact ⟨rfl, hb⟩
set_option maxHeartbeats 4000000 in
/-- impl.wordKind -/
theorem wordKind_any (s : ByteArray) (mb mo cp : Nat) (w : World) (hm : Mt w mb mo cp) (hl : s.size ≤ 9223372036854775807) :
    Calls Tryz.prog 47 #[.string s] w fun e w' => e = .returned (.int .i64 (Pl.wk s.data.toList)) ∧ Below w.heap.size w w' := by
  by_cases h0 : s.size = 0
  · have hq : (s.toList == []) = true := by rw [ba_nil]; exact decide_eq_true h0
    have HR : Hid (Pl.wk s.data.toList = 0) := by
      show _ = _
      rw [Pl.sz_eq] at h0
      rw [List.eq_nil_of_length_eq_zero h0]
      rfl
    clear h0
    generalize Pl.wk s.data.toList = r at *
    go_enter Tryz.func47, Tryz.ntmps47
    go_wp2
    go_ret
    exact ⟨ret_int HR.out.symm, Below.refl _ _⟩
  have hq : (s.toList == []) = false := by rw [ba_nil]; exact decide_eq_false h0
  have hix : ∀ w, (Instr.index 9 (.string s) (.int .i64 0)).run Tryz.prog w = .ok (.int .u8 (Pl.bt s 0)) w := idx_str s 0 (by omega)
  have HW := hideP (Pl.wk_I s h0)
  have K : Hid (∀ w, Calls Tryz.prog 55 #[.int .u8 (Pl.bt s 0)] w fun e w' => e = .returned (.bool (Pl.lttI (Pl.bt s 0))) ∧ w' = w) := isLetter_any _
  have K2 : Hid (∀ w, Calls Tryz.prog 51 #[.string s, .int .i64 0] w fun e w' => e = .returned (.int .i64 (Pl.stre s (s.size - 1) 1 : Nat)) ∧ w' = w) := fun w => stretchEnd_any s 0 w (by omega) hl
  have K3 : Hid (∀ w, Calls Tryz.prog 73 #[.int .u8 (Pl.bt s 0)] w fun e w' => e = .returned (.bool (decide (65 ≤ Pl.bt s 0 ∧ Pl.bt s 0 ≤ 90))) ∧ w' = w) := isCapital_any _
  have K4 := hideP (hasMeaning_any s mb mo cp w hm)
  clear hm
  generalize Pl.wk s.data.toList = r at *
  generalize Pl.mgs.any (fun m => decide (m.t = s.data.toList)) = q at *
  generalize Pl.stre s (s.size - 1) 1 = z at *
  generalize hcx : decide (65 ≤ Pl.bt s 0 ∧ Pl.bt s 0 ≤ 90) = cx at *
  have HCX := hideP hcx
  clear hcx
  generalize Pl.bt s 0 = x at *
  generalize hlx : Pl.lttI x = lx at *
  clear hlx
  have Hs : Hid (∀ n, s.size = n → s.size = n) := fun _ h => h
  generalize hn : s.size = n at *
  by_cases g1 : (20 : Int) < n
  · have HR := hideP (show r = 0 by rw [HW.out, if_pos (by omega)])
    go_enter Tryz.func47, Tryz.ntmps47
    go_wp2
    go_ret
    exact ⟨ret_int HR.out.symm, Below.refl _ _⟩
  have HW1 := hideP (show r = if lx = false then 0 else if z < n then 0 else if s = ⟨#[115, 101, 108, 102]⟩ ∨ (65 ≤ x ∧ x ≤ 90) then 3 else if q = true then 4 else 2 by rw [HW.out, if_neg (by omega)])
  clear HW
  cases lx
  · have HR := hideP (show r = 0 by rw [HW1.out, if_pos rfl])
    go_enter Tryz.func47, Tryz.ntmps47
    go_wp2_with (first | (go_at_call 55; refine (K.out _).mono ?_; rintro e w' ⟨rfl, rfl⟩))
    go_ret
    exact ⟨ret_int HR.out.symm, Below.refl _ _⟩
  have HW2 := hideP (show r = if z < n then 0 else if s = ⟨#[115, 101, 108, 102]⟩ ∨ (65 ≤ x ∧ x ≤ 90) then 3 else if q = true then 4 else 2 by rw [HW1.out, if_neg (by decide)])
  clear HW1
  by_cases g2 : (z : Int) < n
  · have HR := hideP (show r = 0 by rw [HW2.out, if_pos (by omega)])
    go_enter Tryz.func47, Tryz.ntmps47
    go_wp2_with (first | (go_at_call 55; refine (K.out _).mono ?_; rintro e w' ⟨rfl, rfl⟩) | (go_at_call 51; refine (K2.out _).mono ?_; rintro e w' ⟨rfl, rfl⟩))
    go_ret
    exact ⟨ret_int HR.out.symm, Below.refl _ _⟩
  have HW3 := hideP (show r = if s = ⟨#[115, 101, 108, 102]⟩ ∨ (65 ≤ x ∧ x ≤ 90) then 3 else if q = true then 4 else 2 by rw [HW2.out, if_neg (by omega)])
  clear HW2
  by_cases g3 : s = ⟨#[115, 101, 108, 102]⟩
  · have HR := hideP (show r = 3 by rw [HW3.out, if_pos (.inl g3)])
    have hqs : (s.toList == [115, 101, 108, 102]) = true := by rw [← self_list, ba_eq]; exact decide_eq_true g3
    clear g3
    go_enter Tryz.func47, Tryz.ntmps47
    go_wp2_with (first | (go_at_call 55; refine (K.out _).mono ?_; rintro e w' ⟨rfl, rfl⟩) | (go_at_call 51; refine (K2.out _).mono ?_; rintro e w' ⟨rfl, rfl⟩))
    go_ret
    exact ⟨ret_int HR.out.symm, Below.refl _ _⟩
  have hqs : (s.toList == [115, 101, 108, 102]) = false := by rw [← self_list, ba_eq]; exact decide_eq_false g3
  cases cx
  · have hnc := of_decide_eq_false HCX.out
    have HW4 := hideP (show r = if q = true then 4 else 2 by rw [HW3.out, if_neg (by rintro (h | h); exact g3 h; exact hnc h)])
    clear g3 hnc HW3 HCX
    cases q
    · have HR := hideP (show r = 2 by rw [HW4.out]; rfl)
      go_enter Tryz.func47, Tryz.ntmps47
      go_wp2_with (first | (go_at_call 55; refine (K.out _).mono ?_; rintro e w' ⟨rfl, rfl⟩) | (go_at_call 51; refine (K2.out _).mono ?_; rintro e w' ⟨rfl, rfl⟩) | (go_at_call 73; refine (K3.out _).mono ?_; rintro e w' ⟨rfl, rfl⟩) | (go_at_call 74; refine K4.out.mono ?_; rintro e w' ⟨rfl, hb⟩))
      go_ret
      exact ⟨ret_int HR.out.symm, hb⟩
    · have HR := hideP (show r = 4 by rw [HW4.out]; rfl)
      go_enter Tryz.func47, Tryz.ntmps47
      go_wp2_with (first | (go_at_call 55; refine (K.out _).mono ?_; rintro e w' ⟨rfl, rfl⟩) | (go_at_call 51; refine (K2.out _).mono ?_; rintro e w' ⟨rfl, rfl⟩) | (go_at_call 73; refine (K3.out _).mono ?_; rintro e w' ⟨rfl, rfl⟩) | (go_at_call 74; refine K4.out.mono ?_; rintro e w' ⟨rfl, hb⟩))
      go_ret
      exact ⟨ret_int HR.out.symm, hb⟩
  · have hc := of_decide_eq_true HCX.out
    have HR := hideP (show r = 3 by rw [HW3.out, if_pos (.inr hc)])
    clear g3 hc HCX HW3
    go_enter Tryz.func47, Tryz.ntmps47
    go_wp2_with (first | (go_at_call 55; refine (K.out _).mono ?_; rintro e w' ⟨rfl, rfl⟩) | (go_at_call 51; refine (K2.out _).mono ?_; rintro e w' ⟨rfl, rfl⟩) | (go_at_call 73; refine (K3.out _).mono ?_; rintro e w' ⟨rfl, rfl⟩))
    go_ret
    exact ⟨ret_int HR.out.symm, Below.refl _ _⟩
namespace Pl
/-- the value of the first k bytes as digits -/
def dv (s : ByteArray) : Nat → Int
  | 0 => 0
  | k + 1 => dv s k * 10 + (bt s k - 48)
def digs (s : ByteArray) (n : Nat) : Prop := ∀ j, j < n → digI (bt s j) = true
instance (s : ByteArray) (n : Nat) : Decidable (digs s n) := inferInstanceAs (Decidable (∀ j, j < n → digI (bt s j) = true))
theorem digI_iff {x : Int} : digI x = true ↔ 48 ≤ x ∧ x ≤ 57 := by simp [digI]
def p10 : Nat → Int
  | 0 => 1
  | n + 1 => 10 * p10 n
theorem p10_le : ∀ k, k ≤ 10 → 1 ≤ p10 k ∧ p10 k ≤ 10000000000 := by decide
theorem dv_lt {s : ByteArray} : ∀ k, digs s k → 0 ≤ dv s k ∧ dv s k < p10 k
  | 0, _ => by simp [dv, p10]
  | k + 1, h => by
    have := dv_lt k (fun j hj => h j (by omega))
    have h2 := digI_iff.1 (h k (by omega))
    simp only [dv, p10]
    omega
/-- the value of a stretch of digits, and whether it is a number -/
def numR (s : ByteArray) : Int × Bool := if digs s s.size ∧ s.size ≤ 10 then (dv s s.size, decide (0 < s.size) && decide (dv s s.size ≤ 3000000000)) else (0, false)
/-- spec.l3Number, impl.numberOf -/
def numS (s : ByteArray) : Int × Bool := if bt s 0 = 95 then (-(numR (s.extract 1 s.size)).1, (numR (s.extract 1 s.size)).2) else numR s
end Pl
namespace Pl
structure Tok where
  k : Int
  tx : ByteArray
  v : Int
  pos : Nat
def sg18 : List ByteArray := [⟨#[43]⟩, ⟨#[45]⟩, ⟨#[42]⟩, ⟨#[37]⟩, ⟨#[124]⟩, ⟨#[60]⟩, ⟨#[61]⟩, ⟨#[62]⟩, ⟨#[126]⟩, ⟨#[40]⟩, ⟨#[41]⟩, ⟨#[123]⟩, ⟨#[125]⟩, ⟨#[58]⟩, ⟨#[47]⟩, ⟨#[92]⟩, ⟨#[64]⟩, ⟨#[46]⟩]
def st1 (s : ByteArray) (i : Nat) : ByteArray := s.extract i (stre s (s.size - (i + 1)) (i + 1))
def st0 (s : ByteArray) (i : Nat) : ByteArray := s.extract i (stre s (s.size - i) i)
/-- the token that begins at i -/
def tokAt (s : ByteArray) (i : Nat) : Tok :=
  if bt s i = 95 ∨ digI (bt s i) = true then ⟨if (numS (st1 s i)).2 = true then 110 else 120, st1 s i, (numS (st1 s i)).1, i⟩
  else if lttI (bt s i) = true then ⟨wkS (st0 s i), st0 s i, 0, i⟩
  else if bt s i = 10 ∨ bt s i = 59 then ⟨59, s.extract i (i + 1), 0, i⟩
  else if bt s i = 58 ∧ i + 1 < s.size ∧ bt s (i + 1) = 61 then ⟨115, ⟨#[58, 61]⟩, 0, i⟩
  else ⟨if hasB sg18 (s.extract i (i + 1)) 18 = true then 115 else 120, s.extract i (i + 1), 0, i⟩
def eol (s : ByteArray) : Nat → Nat → Nat
  | 0, k => k
  | n + 1, k => if bt s k = 10 then k else eol s n (k + 1)
def blank (c : Int) : Prop := c = 32 ∨ c = 9 ∨ c = 13
instance (c : Int) : Decidable (blank c) := inferInstanceAs (Decidable (c = 32 ∨ c = 9 ∨ c = 13))
def lexS (s : ByteArray) : Nat → Nat → List Tok
  | 0, _ => []
  | n + 1, i =>
    if s.size ≤ i then []
    else if blank (bt s i) then lexS s n (i + 1)
    else if bt s i = 35 then lexS s n (eol s (s.size - i) i)
    else tokAt s i :: lexS s n (i + (tokAt s i).tx.size)
theorem stre_ge (s : ByteArray) : ∀ n k, k ≤ stre s n k ∧ stre s n k ≤ k + n := stre_le s
theorem eol_le (s : ByteArray) : ∀ n k, k ≤ eol s n k ∧ eol s n k ≤ k + n
  | 0, k => ⟨Nat.le_refl _, Nat.le_refl _⟩
  | n + 1, k => by
    have := eol_le s n (k + 1)
    rw [eol]
    split <;> omega
theorem ext_size (s : ByteArray) (i j : Nat) (h : j ≤ s.size) : (s.extract i j).size = j - i := by
  rw [ByteArray.size_extract]
  omega
theorem st1_size (s : ByteArray) (i : Nat) (h : i < s.size) : i + (st1 s i).size = stre s (s.size - (i + 1)) (i + 1) ∧ 1 ≤ (st1 s i).size ∧ i + (st1 s i).size ≤ s.size := by
  have h1 := stre_ge s (s.size - (i + 1)) (i + 1)
  unfold st1
  rw [ext_size s i _ (by omega)]
  omega
theorem st0_size (s : ByteArray) (i : Nat) (h : i < s.size) (hl : lttI (bt s i) = true) : i + (st0 s i).size = stre s (s.size - i) i ∧ 1 ≤ (st0 s i).size ∧ i + (st0 s i).size ≤ s.size := by
  have h2 : stre s (s.size - i) i = stre s (s.size - (i + 1)) (i + 1) := stre_yes h (by simp [ldI, hl])
  have h1 := stre_ge s (s.size - (i + 1)) (i + 1)
  unfold st0
  rw [ext_size s i _ (by omega)]
  omega
theorem tok_size (s : ByteArray) (i : Nat) (h : i < s.size) : 1 ≤ (tokAt s i).tx.size ∧ i + (tokAt s i).tx.size ≤ s.size := by
  unfold tokAt
  split
  · have := st1_size s i h
    simp only
    omega
  · split
    · rename_i hl
      have := st0_size s i h hl
      simp only
      omega
    · split
      · simp only
        rw [ext_size s i _ (by omega)]
        omega
      · split
        · rename_i h5
          have : (⟨#[58, 61]⟩ : ByteArray).size = 2 := rfl
          simp only
          omega
        · simp only
          rw [ext_size s i _ (by omega)]
          omega
theorem eol_lt {s : ByteArray} {i : Nat} (h : i < s.size) (hc : bt s i = 35) : i + 1 ≤ eol s (s.size - i) i ∧ eol s (s.size - i) i ≤ s.size := by
  obtain ⟨m, hm⟩ : ∃ m, s.size - i = m + 1 := ⟨s.size - i - 1, by omega⟩
  have := eol_le s m (i + 1)
  rw [hm, eol, if_neg (by rw [hc]; decide)]
  omega
theorem lexS_fuel (s : ByteArray) : ∀ n m i, s.size - i ≤ n → s.size - i ≤ m → lexS s n i = lexS s m i
  | 0, 0, _, _, _ => rfl
  | 0, m + 1, i, h, _ => by rw [lexS, lexS, if_pos (by omega)]
  | n + 1, 0, i, _, h => by rw [lexS, lexS, if_pos (by omega)]
  | n + 1, m + 1, i, h1, h2 => by
    rw [lexS, lexS]
    by_cases h : s.size ≤ i
    · rw [if_pos h, if_pos h]
    · rw [if_neg h, if_neg h]
      have ht := tok_size s i (by omega)
      split
      · exact lexS_fuel s n m _ (by omega) (by omega)
      · split
        · rename_i hc
          have := eol_lt (by omega) hc
          exact lexS_fuel s n m _ (by omega) (by omega)
        · rw [lexS_fuel s n m _ (by omega) (by omega)]
/-- all tokens from i on -/
def lxT (s : ByteArray) (i : Nat) : List Tok := lexS s (s.size - i) i
theorem lx_end {s : ByteArray} {i : Nat} (h : s.size ≤ i) : lxT s i = [] := by
  unfold lxT
  rw [show s.size - i = 0 by omega]
  rfl
theorem lx_un {s : ByteArray} {i : Nat} (h : i < s.size) : lxT s i = if blank (bt s i) then lxT s (i + 1) else if bt s i = 35 then lxT s (eol s (s.size - i) i) else tokAt s i :: lxT s (i + (tokAt s i).tx.size) := by
  unfold lxT
  obtain ⟨m, hm⟩ : ∃ m, s.size - i = m + 1 := ⟨s.size - i - 1, by omega⟩
  have ht := tok_size s i h
  rw [hm, lexS, if_neg (by omega), ← hm]
  split
  · exact lexS_fuel s _ _ _ (by omega) (by omega)
  · split
    · rename_i hc
      have := eol_lt h hc
      exact lexS_fuel s _ _ _ (by omega) (by omega)
    · exact congrArg _ (lexS_fuel s _ _ _ (by omega) (by omega))
theorem eol_yes {s : ByteArray} {k : Nat} (h : k < s.size) (hx : ¬ bt s k = 10) : eol s (s.size - k) k = eol s (s.size - (k + 1)) (k + 1) := by
  obtain ⟨m, hm⟩ : ∃ m, s.size - k = m + 1 := ⟨s.size - k - 1, by omega⟩
  rw [hm, eol, if_neg hx]
  congr 1
  omega
theorem eol_no {s : ByteArray} {k : Nat} (h : k < s.size) (hx : bt s k = 10) : eol s (s.size - k) k = k := by
  obtain ⟨m, hm⟩ : ∃ m, s.size - k = m + 1 := ⟨s.size - k - 1, by omega⟩
  rw [hm, eol, if_pos hx]
theorem eol_end {s : ByteArray} {k : Nat} (h : s.size ≤ k) : eol s (s.size - k) k = k := by
  have hm : s.size - k = 0 := by omega
  rw [hm, eol]
theorem len_le : ∀ (n : Nat) (s : ByteArray) (i : Nat), s.size - i ≤ n → (lxT s i).length ≤ s.size - i
  | 0, s, i, h => by rw [lx_end (by omega)]; simp
  | n + 1, s, i, h => by
    by_cases h0 : s.size ≤ i
    · rw [lx_end h0]; simp
    · have ht := tok_size s i (by omega)
      rw [lx_un (by omega)]
      split
      · have := len_le n s (i + 1) (by omega); omega
      · split
        · rename_i hc
          have h1 := eol_lt (by omega) hc
          have := len_le n s (eol s (s.size - i) i) (by omega)
          omega
        · have := len_le n s (i + (tokAt s i).tx.size) (by omega)
          rw [List.length_cons]
          omega
end Pl
namespace Pl
end Pl
theorem bcell {B : Nat} {W w1 : World} (hb : Below B W w1) {b j : Nat} {v : Value} (h : b < B) (hc : W.cell? ⟨b, j, none⟩ = some v) : w1.cell? ⟨b, j, none⟩ = some v := (hb.cell (p := ⟨b, j, none⟩) h).trans hc
theorem bfroz {B : Nat} {W w1 : World} (hb : Below B W w1) {b j : Nat} (h : b < B) (hc : W.frozen? ⟨b, j, none⟩ = false) : w1.frozen? ⟨b, j, none⟩ = false := (hb.frozen (p := ⟨b, j, none⟩) h).trans hc
theorem cells_new {w : World} {l : List Value} {t : TypeId} {b : Nat} (hb : b = w.heap.size) : ∀ j u, l[j]? = some u → (w.alloc (.cells l.toArray t)).cell? ⟨b, 0 + j, none⟩ = some u := fun j u h => by
  rw [World.cell?_alloc_at _ _ _ _ hb]
  simpa using h
end Go.Proofs.YthhfpcdbgndioaaGreatDoor
