import Derived.Test.YtljkolffjjhgeaaDoorWki
import Derived.Test.YtljkolffjjhgeaaDoorFeq
import Derived.Test.YtljkolffjjhgeaaDoorMkp
namespace Go.Proofs.YtljkolffjjhgeaaDoor
open Go.RowKit
set_option linter.unusedVariables false
set_option maxRecDepth 100000
namespace Pl
/-- the value of the first k bytes as digits -/
def dv (s : ByteArray) : Nat → Int
  | 0 => 0
  | k + 1 => dv s k * 10 + (bt s k - 48)
def digs (s : ByteArray) (n : Nat) : Prop := ∀ j, j < n → digI (bt s j) = true
instance (s : ByteArray) (n : Nat) : Decidable (digs s n) := inferInstanceAs (Decidable (∀ j, j < n → digI (bt s j) = true))
theorem digI_iff {x : Int} : digI x = true ↔ 48 ≤ x ∧ x ≤ 57 := by simp [digI]
def p10 : Nat → Int
  | 0 => 1
  | n + 1 => 10 * p10 n
theorem p10_le : ∀ k, k ≤ 10 → 1 ≤ p10 k ∧ p10 k ≤ 10000000000 := by decide
theorem dv_lt {s : ByteArray} : ∀ k, digs s k → 0 ≤ dv s k ∧ dv s k < p10 k
  | 0, _ => by simp [dv, p10]
  | k + 1, h => by
    have := dv_lt k (fun j hj => h j (by omega))
    have h2 := digI_iff.1 (h k (by omega))
    simp only [dv, p10]
    omega
/-- the value of a stretch of digits, and whether it is a number -/
def numR (s : ByteArray) : Int × Bool := if digs s s.size ∧ s.size ≤ 10 then (dv s s.size, decide (0 < s.size) && decide (dv s s.size ≤ 3000000000)) else (0, false)
/-- spec.l3Number, impl.numberOf -/
def numS (s : ByteArray) : Int × Bool := if bt s 0 = 95 then (-(numR (s.extract 1 s.size)).1, (numR (s.extract 1 s.size)).2) else numR s
end Pl
set_option maxHeartbeats 4000000 in
/-- spec.l3Number -/
theorem l3Number_any (s : ByteArray) (w : World) (h0 : 0 < s.size) (hl : s.size ≤ 9223372036854775807) :
    Calls Tryd.prog 22 #[.string s] w fun e w' => e = .returned (.tuple #[.int .i64 (Pl.numS s).1, .bool (Pl.numS s).2]) ∧ w' = w := by
  have hix0 : ∀ w, (Instr.index 9 (.string s) (.int .i64 0)).run Tryd.prog w = .ok (.int .u8 (Pl.bt s 0)) w := idx_str s 0 h0
  by_cases h95 : Pl.bt s 0 = 95
  · have HS : Hid (Pl.numS s = (-(Pl.numR (s.extract 1 s.size)).1, (Pl.numR (s.extract 1 s.size)).2)) := by show _ = _; unfold Pl.numS; rw [if_pos h95]
    rw [h95] at hix0
    rw [HS.out]
    clear HS h95
    have hlu : (s.extract 1 s.size).size ≤ 9223372036854775807 := by simp; omega
    generalize hN0 : Pl.numR (s.extract 1 s.size) = R at *
    have HN : Hid (Pl.numR (s.extract 1 s.size) = R) := hN0
    clear hN0
    have HLU := hideP hlu
    clear hlu
    go_enter Tryd.func22, Tryd.ntmps22
    go_wp2
    clear h0 hl hix0
    generalize s.extract 1 s.size = u at *
    have hl := HLU.out
    clear HLU
    have HV : Hid (R = if Pl.digs u u.size ∧ u.size ≤ 10 then (Pl.dv u u.size, decide (0 < u.size) && decide (Pl.dv u u.size ≤ 3000000000)) else (0, false)) := by show _ = _; rw [← HN.out]; rfl
    have HX : Hid (∀ k, k < u.size → ∀ w, (Instr.index 9 (.string u) (.int .i64 k)).run Tryd.prog w = .ok (.int .u8 (Pl.bt u k)) w) := fun k hk w => idx_str u k hk w
    have HD : Hid (∀ k, Pl.digs u k → k ≤ 10 → 0 ≤ Pl.dv u k ∧ Pl.dv u k ≤ 10000000000) := fun k h hk => by
      have h1 := Pl.dv_lt k h
      have h2 := Pl.p10_le k hk
      omega
    clear HN
    generalize hn : u.size = n at *
    go_loop [5, 6] (fun v i => ∃ k : Nat, k ≤ n ∧ i = .int .i64 k ∧ (0 < k → n ≤ 10) ∧ Hid (Pl.digs u k) ∧ v = .int .i64 (Pl.dv u k)) (fun _ i => n - (intOf i).toNat)
    case atStart => exact ⟨0, Nat.zero_le _, rfl, fun h => absurd h (by omega), fun j hj => absurd hj (by omega), rfl⟩
    case round =>
      obtain ⟨k, hk, rfl, hk10, hdg, rfl⟩ := hrel
      by_cases hlt : k < n
      · have hix := HX.out k hlt
        have hlt' : (k : Int) < (n : Int) := by omega
        have K : Hid (∀ w, Calls Tryd.prog 20 #[.int .u8 (Pl.bt u k)] w fun e w' => e = .returned (.bool (Pl.digI (Pl.bt u k))) ∧ w' = w) := l3Digit_any _
        cases hd : Pl.digI (Pl.bt u k)
        · rw [hd] at K
          have HR : Hid (R = (0, false)) := by
            show _ = _
            rw [HV.out, if_neg]
            rintro ⟨h1, _⟩
            rw [h1 k hlt] at hd
            cases hd
          clear HV HX HD hd
          generalize Pl.bt u k = x at *
          generalize Pl.dv u k = d at *
          go_wp2_with (go_at_call 20; refine (K.out _).mono ?_; rintro e w' ⟨rfl, rfl⟩)
          refine bodyPost_ret (v := .tuple #[.int .i64 0, .bool false]) (by simp [results, Tryd.results22, go_sem]) rfl ⟨by rw [HR.out]; rfl, rfl⟩
        · rw [hd] at K
          by_cases h10 : n ≤ 10
          · have HG := hideP (show Pl.digs u (k + 1) from fun j hj => by
              rcases Nat.lt_or_ge j k with h | h
              · exact hdg.out j h
              · obtain rfl : j = k := by omega
                exact hd)
            have hb := Pl.digI_iff.1 hd
            have hdb := HD.out k hdg.out (by omega)
            have HS := hideP (show Pl.dv u (k + 1) = Pl.dv u k * 10 + (Pl.bt u k - 48) from rfl)
            clear HV HX HD hd
            generalize Pl.bt u k = x at *
            generalize Pl.dv u k = d at *
            have h10' : ¬ (10 < (n : Int)) := by omega
            go_wp2_with (go_at_call 20; refine (K.out _).mono ?_; rintro e w' ⟨rfl, rfl⟩)
            go_roundw
            case rel => exact ⟨k + 1, by omega, by go_num, fun _ => h10, HG, by rw [HS.out]⟩
            case measure => simp [intOf]; omega
          · have HR : Hid (R = (0, false)) := by
              show _ = _
              rw [HV.out, if_neg]
              rintro ⟨_, h1⟩
              omega
            clear HV HX HD hd
            generalize Pl.bt u k = x at *
            generalize Pl.dv u k = d at *
            have h10' : 10 < (n : Int) := by omega
            go_wp2_with (go_at_call 20; refine (K.out _).mono ?_; rintro e w' ⟨rfl, rfl⟩)
            refine bodyPost_ret (v := .tuple #[.int .i64 0, .bool false]) (by simp [results, Tryd.results22, go_sem]) rfl ⟨by rw [HR.out]; rfl, rfl⟩
      · obtain rfl : k = n := by omega
        have h10 : k ≤ 10 ∨ k = 0 := by
          rcases Nat.eq_zero_or_pos k with h | h
          · exact .inr h
          · exact .inl (hk10 h)
        have HR := hideP (show R = (Pl.dv u k, decide (0 < k) && decide (Pl.dv u k ≤ 3000000000)) by rw [HV.out, if_pos ⟨hdg.out, by omega⟩])
        have hdb := HD.out k hdg.out (by omega)
        clear HV HX HD
        generalize Pl.dv u k = d at *
        by_cases hp : 0 < k
        · have hp' : (0 : Int) < (k : Int) := by omega
          by_cases hm : d ≤ 3000000000
          · go_wp2
            refine bodyPost_ret (v := .tuple #[.int .i64 (-d), .bool true]) (by simp [results, Tryd.results22, go_sem]) rfl ⟨by rw [HR.out]; simp [hp, hm], rfl⟩
          · go_wp2
            refine bodyPost_ret (v := .tuple #[.int .i64 (-d), .bool false]) (by simp [results, Tryd.results22, go_sem]) rfl ⟨by rw [HR.out]; simp [hp, hm], rfl⟩
        · obtain rfl : k = 0 := by omega
          simp only [Int.natCast_zero] at *
          go_wp2
          refine bodyPost_ret (v := .tuple #[.int .i64 (-d), .bool false]) (by simp [results, Tryd.results22, go_sem]) rfl ⟨by rw [HR.out]; simp, rfl⟩
  · have HS : Hid (Pl.numS s = Pl.numR s) := by show _ = _; unfold Pl.numS; rw [if_neg h95]
    have h95' : (Pl.bt s 0 == 95) = false := by simpa using h95
    rw [HS.out]
    clear HS h95
    generalize Pl.bt s 0 = x0 at *
    have HV : Hid (Pl.numR s = if Pl.digs s s.size ∧ s.size ≤ 10 then (Pl.dv s s.size, decide (0 < s.size) && decide (Pl.dv s s.size ≤ 3000000000)) else (0, false)) := rfl
    have HX : Hid (∀ k, k < s.size → ∀ w, (Instr.index 9 (.string s) (.int .i64 k)).run Tryd.prog w = .ok (.int .u8 (Pl.bt s k)) w) := fun k hk w => idx_str s k hk w
    have HD : Hid (∀ k, Pl.digs s k → k ≤ 10 → 0 ≤ Pl.dv s k ∧ Pl.dv s k ≤ 10000000000) := fun k h hk => by
      have h1 := Pl.dv_lt k h
      have h2 := Pl.p10_le k hk
      omega
    generalize hN : Pl.numR s = R at *
    clear hN
    generalize hn : s.size = n at *
    go_enter Tryd.func22, Tryd.ntmps22
    go_wp2
    go_loop [5, 6] (fun v i => ∃ k : Nat, k ≤ n ∧ i = .int .i64 k ∧ (0 < k → n ≤ 10) ∧ Hid (Pl.digs s k) ∧ v = .int .i64 (Pl.dv s k)) (fun _ i => n - (intOf i).toNat)
    case atStart => exact ⟨0, Nat.zero_le _, rfl, fun h => absurd h (by omega), fun j hj => absurd hj (by omega), rfl⟩
    case round =>
      obtain ⟨k, hk, rfl, hk10, hdg, rfl⟩ := hrel
      by_cases hlt : k < n
      · have hix := HX.out k hlt
        have hlt' : (k : Int) < (n : Int) := by omega
        have K : Hid (∀ w, Calls Tryd.prog 20 #[.int .u8 (Pl.bt s k)] w fun e w' => e = .returned (.bool (Pl.digI (Pl.bt s k))) ∧ w' = w) := l3Digit_any _
        cases hd : Pl.digI (Pl.bt s k)
        · rw [hd] at K
          have HR : Hid (R = (0, false)) := by
            show _ = _
            rw [HV.out, if_neg]
            rintro ⟨h1, _⟩
            rw [h1 k hlt] at hd
            cases hd
          clear HV HX HD hd
          generalize Pl.bt s k = x at *
          generalize Pl.dv s k = d at *
          go_wp2_with (go_at_call 20; refine (K.out _).mono ?_; rintro e w' ⟨rfl, rfl⟩)
          refine bodyPost_ret (v := .tuple #[.int .i64 0, .bool false]) (by simp [results, Tryd.results22, go_sem]) rfl ⟨by rw [HR.out], rfl⟩
        · rw [hd] at K
          by_cases h10 : n ≤ 10
          · have HG := hideP (show Pl.digs s (k + 1) from fun j hj => by
              rcases Nat.lt_or_ge j k with h | h
              · exact hdg.out j h
              · obtain rfl : j = k := by omega
                exact hd)
            have hb := Pl.digI_iff.1 hd
            have hdb := HD.out k hdg.out (by omega)
            have HS := hideP (show Pl.dv s (k + 1) = Pl.dv s k * 10 + (Pl.bt s k - 48) from rfl)
            clear HV HX HD hd
            generalize Pl.bt s k = x at *
            generalize Pl.dv s k = d at *
            have h10' : ¬ (10 < (n : Int)) := by omega
            go_wp2_with (go_at_call 20; refine (K.out _).mono ?_; rintro e w' ⟨rfl, rfl⟩)
            go_roundw
            case rel => exact ⟨k + 1, by omega, by go_num, fun _ => h10, HG, by rw [HS.out]⟩
            case measure => simp [intOf]; omega
          · have HR : Hid (R = (0, false)) := by
              show _ = _
              rw [HV.out, if_neg]
              rintro ⟨_, h1⟩
              omega
            clear HV HX HD hd
            generalize Pl.bt s k = x at *
            generalize Pl.dv s k = d at *
            have h10' : 10 < (n : Int) := by omega
            go_wp2_with (go_at_call 20; refine (K.out _).mono ?_; rintro e w' ⟨rfl, rfl⟩)
            refine bodyPost_ret (v := .tuple #[.int .i64 0, .bool false]) (by simp [results, Tryd.results22, go_sem]) rfl ⟨by rw [HR.out], rfl⟩
      · obtain rfl : k = n := by omega
        have h10 : k ≤ 10 ∨ k = 0 := by
          rcases Nat.eq_zero_or_pos k with h | h
          · exact .inr h
          · exact .inl (hk10 h)
        have HR := hideP (show R = (Pl.dv s k, decide (0 < k) && decide (Pl.dv s k ≤ 3000000000)) by rw [HV.out, if_pos ⟨hdg.out, by omega⟩])
        have hdb := HD.out k hdg.out (by omega)
        clear HV HX HD
        generalize Pl.dv s k = d at *
        by_cases hp : 0 < k
        · have hp' : (0 : Int) < (k : Int) := by omega
          by_cases hm : d ≤ 3000000000
          · go_wp2
            refine bodyPost_ret (v := .tuple #[.int .i64 (d), .bool true]) (by simp [results, Tryd.results22, go_sem]) rfl ⟨by rw [HR.out]; simp [hp, hm], rfl⟩
          · go_wp2
            refine bodyPost_ret (v := .tuple #[.int .i64 (d), .bool false]) (by simp [results, Tryd.results22, go_sem]) rfl ⟨by rw [HR.out]; simp [hp, hm], rfl⟩
        · exact absurd h0 hp
namespace Pl
structure Tok where
  k : Int
  tx : ByteArray
  v : Int
  pos : Nat
def sg18 : List ByteArray := [⟨#[43]⟩, ⟨#[45]⟩, ⟨#[42]⟩, ⟨#[37]⟩, ⟨#[124]⟩, ⟨#[60]⟩, ⟨#[61]⟩, ⟨#[62]⟩, ⟨#[126]⟩, ⟨#[40]⟩, ⟨#[41]⟩, ⟨#[123]⟩, ⟨#[125]⟩, ⟨#[58]⟩, ⟨#[47]⟩, ⟨#[92]⟩, ⟨#[64]⟩, ⟨#[46]⟩]
def st1 (s : ByteArray) (i : Nat) : ByteArray := s.extract i (stre s (s.size - (i + 1)) (i + 1))
def st0 (s : ByteArray) (i : Nat) : ByteArray := s.extract i (stre s (s.size - i) i)
/-- the token that begins at i -/
def tokAt (s : ByteArray) (i : Nat) : Tok :=
  if bt s i = 95 ∨ digI (bt s i) = true then ⟨if (numS (st1 s i)).2 = true then 110 else 120, st1 s i, (numS (st1 s i)).1, i⟩
  else if lttI (bt s i) = true then ⟨wkS (st0 s i), st0 s i, 0, i⟩
  else if bt s i = 10 ∨ bt s i = 59 then ⟨59, s.extract i (i + 1), 0, i⟩
  else if bt s i = 58 ∧ i + 1 < s.size ∧ bt s (i + 1) = 61 then ⟨115, ⟨#[58, 61]⟩, 0, i⟩
  else ⟨if hasB sg18 (s.extract i (i + 1)) 18 = true then 115 else 120, s.extract i (i + 1), 0, i⟩
def eol (s : ByteArray) : Nat → Nat → Nat
  | 0, k => k
  | n + 1, k => if bt s k = 10 then k else eol s n (k + 1)
def blank (c : Int) : Prop := c = 32 ∨ c = 9 ∨ c = 13
instance (c : Int) : Decidable (blank c) := inferInstanceAs (Decidable (c = 32 ∨ c = 9 ∨ c = 13))
def lexS (s : ByteArray) : Nat → Nat → List Tok
  | 0, _ => []
  | n + 1, i =>
    if s.size ≤ i then []
    else if blank (bt s i) then lexS s n (i + 1)
    else if bt s i = 35 then lexS s n (eol s (s.size - i) i)
    else tokAt s i :: lexS s n (i + (tokAt s i).tx.size)
theorem stre_ge (s : ByteArray) : ∀ n k, k ≤ stre s n k ∧ stre s n k ≤ k + n := stre_le s
theorem eol_le (s : ByteArray) : ∀ n k, k ≤ eol s n k ∧ eol s n k ≤ k + n
  | 0, k => ⟨Nat.le_refl _, Nat.le_refl _⟩
  | n + 1, k => by
    have := eol_le s n (k + 1)
    rw [eol]
    split <;> omega
theorem ext_size (s : ByteArray) (i j : Nat) (h : j ≤ s.size) : (s.extract i j).size = j - i := by
  rw [ByteArray.size_extract]
  omega
theorem st1_size (s : ByteArray) (i : Nat) (h : i < s.size) : i + (st1 s i).size = stre s (s.size - (i + 1)) (i + 1) ∧ 1 ≤ (st1 s i).size ∧ i + (st1 s i).size ≤ s.size := by
  have h1 := stre_ge s (s.size - (i + 1)) (i + 1)
  unfold st1
  rw [ext_size s i _ (by omega)]
  omega
theorem st0_size (s : ByteArray) (i : Nat) (h : i < s.size) (hl : lttI (bt s i) = true) : i + (st0 s i).size = stre s (s.size - i) i ∧ 1 ≤ (st0 s i).size ∧ i + (st0 s i).size ≤ s.size := by
  have h2 : stre s (s.size - i) i = stre s (s.size - (i + 1)) (i + 1) := stre_yes h (by simp [ldI, hl])
  have h1 := stre_ge s (s.size - (i + 1)) (i + 1)
  unfold st0
  rw [ext_size s i _ (by omega)]
  omega
theorem tok_size (s : ByteArray) (i : Nat) (h : i < s.size) : 1 ≤ (tokAt s i).tx.size ∧ i + (tokAt s i).tx.size ≤ s.size := by
  unfold tokAt
  split
  · have := st1_size s i h
    simp only
    omega
  · split
    · rename_i hl
      have := st0_size s i h hl
      simp only
      omega
    · split
      · simp only
        rw [ext_size s i _ (by omega)]
        omega
      · split
        · rename_i h5
          have : (⟨#[58, 61]⟩ : ByteArray).size = 2 := rfl
          simp only
          omega
        · simp only
          rw [ext_size s i _ (by omega)]
          omega
theorem eol_lt {s : ByteArray} {i : Nat} (h : i < s.size) (hc : bt s i = 35) : i + 1 ≤ eol s (s.size - i) i ∧ eol s (s.size - i) i ≤ s.size := by
  obtain ⟨m, hm⟩ : ∃ m, s.size - i = m + 1 := ⟨s.size - i - 1, by omega⟩
  have := eol_le s m (i + 1)
  rw [hm, eol, if_neg (by rw [hc]; decide)]
  omega
theorem lexS_fuel (s : ByteArray) : ∀ n m i, s.size - i ≤ n → s.size - i ≤ m → lexS s n i = lexS s m i
  | 0, 0, _, _, _ => rfl
  | 0, m + 1, i, h, _ => by rw [lexS, lexS, if_pos (by omega)]
  | n + 1, 0, i, _, h => by rw [lexS, lexS, if_pos (by omega)]
  | n + 1, m + 1, i, h1, h2 => by
    rw [lexS, lexS]
    by_cases h : s.size ≤ i
    · rw [if_pos h, if_pos h]
    · rw [if_neg h, if_neg h]
      have ht := tok_size s i (by omega)
      split
      · exact lexS_fuel s n m _ (by omega) (by omega)
      · split
        · rename_i hc
          have := eol_lt (by omega) hc
          exact lexS_fuel s n m _ (by omega) (by omega)
        · rw [lexS_fuel s n m _ (by omega) (by omega)]
/-- all tokens from i on -/
def lx (s : ByteArray) (i : Nat) : List Tok := lexS s (s.size - i) i
theorem lx_end {s : ByteArray} {i : Nat} (h : s.size ≤ i) : lx s i = [] := by
  unfold lx
  rw [show s.size - i = 0 by omega]
  rfl
theorem lx_un {s : ByteArray} {i : Nat} (h : i < s.size) : lx s i = if blank (bt s i) then lx s (i + 1) else if bt s i = 35 then lx s (eol s (s.size - i) i) else tokAt s i :: lx s (i + (tokAt s i).tx.size) := by
  unfold lx
  obtain ⟨m, hm⟩ : ∃ m, s.size - i = m + 1 := ⟨s.size - i - 1, by omega⟩
  have ht := tok_size s i h
  rw [hm, lexS, if_neg (by omega), ← hm]
  split
  · exact lexS_fuel s _ _ _ (by omega) (by omega)
  · split
    · rename_i hc
      have := eol_lt h hc
      exact lexS_fuel s _ _ _ (by omega) (by omega)
    · exact congrArg _ (lexS_fuel s _ _ _ (by omega) (by omega))
/-- a token of spec in its cells -/
def Tok.cells (t : Tok) : List Value := [.int .u8 t.k, .string t.tx, .int .i64 t.v, .int .i64 t.pos]
def cellsT (l : List Tok) : List Value := l.flatMap Tok.cells
theorem cellsT_len (l : List Tok) : (cellsT l).length = l.length * 4 := by
  induction l with
  | nil => rfl
  | cons t l ih =>
    have e : cellsT (t :: l) = t.cells ++ cellsT l := rfl
    rw [e, List.length_append, ih, List.length_cons]
    simp [Tok.cells]
    omega
theorem cellsT_app (l : List Tok) (t : Tok) : cellsT (l ++ [t]) = cellsT l ++ t.cells := by simp [cellsT]
theorem eol_yes {s : ByteArray} {k : Nat} (h : k < s.size) (hx : ¬ bt s k = 10) : eol s (s.size - k) k = eol s (s.size - (k + 1)) (k + 1) := by
  obtain ⟨m, hm⟩ : ∃ m, s.size - k = m + 1 := ⟨s.size - k - 1, by omega⟩
  rw [hm, eol, if_neg hx]
  congr 1
  omega
theorem eol_no {s : ByteArray} {k : Nat} (h : k < s.size) (hx : bt s k = 10) : eol s (s.size - k) k = k := by
  obtain ⟨m, hm⟩ : ∃ m, s.size - k = m + 1 := ⟨s.size - k - 1, by omega⟩
  rw [hm, eol, if_pos hx]
theorem eol_end {s : ByteArray} {k : Nat} (h : s.size ≤ k) : eol s (s.size - k) k = k := by
  have hm : s.size - k = 0 := by omega
  rw [hm, eol]
theorem len_le : ∀ (n : Nat) (s : ByteArray) (i : Nat), s.size - i ≤ n → (lx s i).length ≤ s.size - i
  | 0, s, i, h => by rw [lx_end (by omega)]; simp
  | n + 1, s, i, h => by
    by_cases h0 : s.size ≤ i
    · rw [lx_end h0]; simp
    · have ht := tok_size s i (by omega)
      rw [lx_un (by omega)]
      split
      · have := len_le n s (i + 1) (by omega); omega
      · split
        · rename_i hc
          have h1 := eol_lt (by omega) hc
          have := len_le n s (eol s (s.size - i) i) (by omega)
          omega
        · have := len_le n s (i + (tokAt s i).tx.size) (by omega)
          rw [List.length_cons]
          omega
end Pl
theorem el28 : El 28 31 4 := El.mk' (zr := .agg #[.int .u8 0, .string ByteArray.empty, .int .i64 0, .int .i64 0]) (bs := 40) Tryd.underlying28 (by kernel_rfl) rfl (by decide) (by decide)
namespace Pl
/-- spec.l3Place: the place of a text in a list, plus 1 -/
def plc : List ByteArray → ByteArray → Nat → Int
  | [], _, _ => 0
  | x :: L, s, k => if x = s then (k : Int) + 1 else plc L s (k + 1)
def ops10 : List ByteArray := [⟨#[43]⟩, ⟨#[45]⟩, ⟨#[42]⟩, ⟨#[37]⟩, ⟨#[124]⟩, ⟨#[109, 105, 110]⟩, ⟨#[109, 97, 120]⟩, ⟨#[60]⟩, ⟨#[61]⟩, ⟨#[62]⟩]
/-- spec.l3Each2 -/
def e2 (t : Tok) : Int := if t.k = 115 then plc ops10 t.tx 0 else 0
def isV (l : List Tok) (i : Int) (text : ByteArray) : Bool := if 0 ≤ i then (match l[i.toNat]? with | some t => decide (t.k = 115) && decide (t.tx = text) | none => false) else false
def endV (t : Tok) : Bool := decide (t.k = 110) || decide (t.k = 119) || (decide (t.k = 115) && decide (t.tx = ⟨#[41]⟩))
end Pl
/-- tokens that are read -/
def RdK (B : Nat) (w : World) (ao : Option Addr) (l : List Pl.Tok) : Prop :=
  l = [] ∨ ∃ b off, b < B ∧ ao = some ⟨b, off, none⟩ ∧ ∀ (i : Nat) (t : Pl.Tok), l[i]? = some t → w.cell? ⟨b, off + i * 4, none⟩ = some (.int .u8 t.k) ∧ w.cell? ⟨b, off + i * 4 + 1, none⟩ = some (.string t.tx) ∧ w.cell? ⟨b, off + i * 4 + 2, none⟩ = some (.int .i64 t.v) ∧ w.cell? ⟨b, off + i * 4 + 3, none⟩ = some (.int .i64 t.pos)
theorem RdK.keep {B : Nat} {w w' : World} {ao : Option Addr} {l : List Pl.Tok} (h : RdK B w ao l) (hb : Below B w w') : RdK B w' ao l := by
  rcases h with h | ⟨b, off, hB, rfl, hc⟩
  · exact .inl h
  · refine .inr ⟨b, off, hB, rfl, fun i t hi => ?_⟩
    obtain ⟨h0, h1, h2, h3⟩ := hc i t hi
    exact ⟨(hb.cell (p := ⟨b, _, none⟩) hB).trans h0, (hb.cell (p := ⟨b, _, none⟩) hB).trans h1, (hb.cell (p := ⟨b, _, none⟩) hB).trans h2, (hb.cell (p := ⟨b, _, none⟩) hB).trans h3⟩
theorem RdK.up {B B' : Nat} {w : World} {ao : Option Addr} {l : List Pl.Tok} (h : RdK B w ao l) (hb : B ≤ B') : RdK B' w ao l := by
  rcases h with h | ⟨b, off, hB, rfl, hc⟩
  · exact .inl h
  · exact .inr ⟨b, off, by omega, rfl, hc⟩
theorem bcell {B : Nat} {W w1 : World} (hb : Below B W w1) {b j : Nat} {v : Value} (h : b < B) (hc : W.cell? ⟨b, j, none⟩ = some v) : w1.cell? ⟨b, j, none⟩ = some v := (hb.cell (p := ⟨b, j, none⟩) h).trans hc
theorem bfroz {B : Nat} {W w1 : World} (hb : Below B W w1) {b j : Nat} (h : b < B) (hc : W.frozen? ⟨b, j, none⟩ = false) : w1.frozen? ⟨b, j, none⟩ = false := (hb.frozen (p := ⟨b, j, none⟩) h).trans hc
theorem cells_new {w : World} {l : List Value} {t : TypeId} {b : Nat} (hb : b = w.heap.size) : ∀ j u, l[j]? = some u → (w.alloc (.cells l.toArray t)).cell? ⟨b, 0 + j, none⟩ = some u := fun j u h => by
  rw [World.cell?_alloc_at _ _ _ _ hb]
  simpa using h
/-- spec.l3Place -/
theorem l3Place_any (L : List ByteArray) (b o cap : Nat) (s : ByteArray) (w : World) (hl : L.length ≤ 1000000) (hc : ∀ j, j < L.length → w.cell? ⟨b, o + j, none⟩ = some (.string (L.getD j default))) :
    Calls Tryd.prog 72 #[.slice (some ⟨b, o, none⟩) L.length cap, .string s] w fun e w' => e = .returned (.int .i64 (Pl.plc L s 0)) ∧ w' = w := by
  have HS : Hid (∀ k, k < L.length → Pl.plc (L.drop k) s k = if L.getD k default = s then (k : Int) + 1 else Pl.plc (L.drop (k + 1)) s (k + 1)) := fun k h => by
    rw [List.drop_eq_getElem_cons h, Pl.plc, List.getD_eq_getElem?_getD, List.getElem?_eq_getElem h]
    rfl
  have HE : Hid (∀ k, L.length ≤ k → Pl.plc (L.drop k) s k = 0) := fun k h => by rw [List.drop_eq_nil_of_le h]; rfl
  have H0 : Hid (Pl.plc L s 0 = Pl.plc (L.drop 0) s 0) := rfl
  generalize Pl.plc L s 0 = R at *
  have HC := hideP hc
  clear hc
  generalize hn : L.length = n at *
  go_enter Tryd.func72, Tryd.ntmps72
  go_wp2
  go_loop [5] (fun v => ∃ k : Nat, k ≤ n ∧ v = .int .i64 k ∧ Hid (R = Pl.plc (L.drop k) s k)) (fun v => n - (intOf v).toNat)
  case atStart => exact ⟨0, Nat.zero_le _, rfl, H0⟩
  case round =>
    obtain ⟨k, hk, rfl, hst⟩ := hrel
    by_cases hlt : k < n
    · have hcell := HC.out k hlt
      have N := hideP (HS.out k hlt)
      clear HS HC HE H0
      generalize L.getD k default = x at *
      by_cases hx : x = s
      · have HX := hideP (show R = (k : Int) + 1 by rw [hst.out, N.out, if_pos hx])
        have hq : (x.toList == s.toList) = true := by rw [ba_eq]; exact decide_eq_true hx
        clear hx N
        go_wp2
        go_ret
        exact ⟨by rw [HX.out]; rfl, rfl⟩
      · have HX := hideP (show R = Pl.plc (L.drop (k + 1)) s (k + 1) by rw [hst.out, N.out, if_neg hx])
        have hq : (x.toList == s.toList) = false := by rw [ba_eq]; exact decide_eq_false hx
        clear hx N
        go_wp2
        go_round
        case rel => exact ⟨k + 1, by omega, by go_num, HX⟩
        case measure => simp [intOf]; omega
    · obtain rfl : k = n := by omega
      have HX := hideP (show R = 0 by rw [hst.out, HE.out k (Nat.le_refl _)])
      clear HS HC HE H0
      go_wp2
      go_ret
      exact ⟨by rw [HX.out]; rfl, rfl⟩
/-- the same, of a list just laid -/
theorem l3Place_lit (L : List ByteArray) (hl : L.length ≤ 1000000) (W : World) (b : Nat) (q : ByteArray) (hb : b = W.heap.size) :
    Calls Tryd.prog 72 #[.slice (some ⟨b, 0, none⟩) L.length L.length, .string q] (W.alloc (.cells (L.map Value.string).toArray 9)) fun e w' => e = .returned (.int .i64 (Pl.plc L q 0)) ∧ w' = W.alloc (.cells (L.map Value.string).toArray 9) :=
  l3Place_any L b 0 L.length q _ hl (fun j hj => cells_new hb j _ (by
    rw [List.getElem?_map, List.getElem?_eq_getElem hj, List.getD_eq_getElem?_getD, List.getElem?_eq_getElem hj]; rfl))
set_option maxHeartbeats 4000000 in
/-- spec.l3Is -/
theorem l3Is_any (l : List Pl.Tok) (ao : Option Addr) (cap : Nat) (i : Int) (text : ByteArray) (w : World) (hl : l.length ≤ 1048576) (hi : -10 ≤ i ∧ i ≤ 1048577) (hR : RdK w.heap.size w ao l) :
    Calls Tryd.prog 26 #[.slice ao l.length cap, .int .i64 i, .string text] w fun e w' => e = .returned (.bool (Pl.isV l i text)) ∧ w' = w := by
  by_cases h0 : 0 ≤ i
  · obtain ⟨k, rfl⟩ : ∃ k : Nat, i = k := ⟨i.toNat, by omega⟩
    by_cases hlt : k < l.length
    · have HV : Hid (Pl.isV l k text = (decide (l[k].k = 115) && decide (l[k].tx = text))) := by
        show _ = _
        unfold Pl.isV
        rw [if_pos h0]
        simp [hlt]
      obtain ⟨b, off, hb, rfl, hc⟩ : ∃ b off, b < w.heap.size ∧ ao = some ⟨b, off, none⟩ ∧ ∀ (i : Nat) (t : Pl.Tok), l[i]? = some t → w.cell? ⟨b, off + i * 4, none⟩ = some (.int .u8 t.k) ∧ w.cell? ⟨b, off + i * 4 + 1, none⟩ = some (.string t.tx) ∧ w.cell? ⟨b, off + i * 4 + 2, none⟩ = some (.int .i64 t.v) ∧ w.cell? ⟨b, off + i * 4 + 3, none⟩ = some (.int .i64 t.pos) := by
        rcases hR with rfl | h
        · simp at hlt
        · exact h
      have c0 := (hc k l[k] (List.getElem?_eq_getElem hlt)).1
      have c1 := (hc k l[k] (List.getElem?_eq_getElem hlt)).2.1
      clear hc hR
      generalize Pl.isV l k text = R at *
      generalize l[k].k = tk at *
      generalize l[k].tx = tt at *
      generalize l.length = n at *
      have hlt' : (k : Int) < (n : Int) := by omega
      by_cases hk : tk = 115
      · subst hk
        have hq : (tt.toList == text.toList) = decide (tt = text) := ba_eq
        generalize hd : decide (tt = text) = d at *
        have HR := hideP (show R = d by rw [HV.out]; simp)
        clear HV hd
        go_enter Tryd.func26, Tryd.ntmps26
        go_wp2
        go_ret
        exact ⟨by rw [HR.out]; rfl, rfl⟩
      · have hk' : (tk == 115) = false := by simpa using hk
        have HR := hideP (show R = false by rw [HV.out]; simp [hk])
        clear HV hk
        go_enter Tryd.func26, Tryd.ntmps26
        go_wp2
        go_ret
        exact ⟨by rw [HR.out]; rfl, rfl⟩
    · have HR : Hid (Pl.isV l k text = false) := by
        show _ = _
        unfold Pl.isV
        rw [if_pos h0]
        simp [hlt]
      generalize Pl.isV l k text = R at *
      clear hR
      generalize l.length = n at *
      have hlt' : ¬ (k : Int) < (n : Int) := by omega
      go_enter Tryd.func26, Tryd.ntmps26
      go_wp2
      go_ret
      exact ⟨by rw [HR.out]; rfl, rfl⟩
  · have HR : Hid (Pl.isV l i text = false) := by
      show _ = _
      unfold Pl.isV
      rw [if_neg h0]
    generalize Pl.isV l i text = R at *
    clear hR
    generalize l.length = n at *
    go_enter Tryd.func26, Tryd.ntmps26
    go_wp2
    go_ret
    exact ⟨by rw [HR.out]; rfl, rfl⟩
set_option maxHeartbeats 4000000 in
/-- spec.l3Ends -/
theorem l3Ends_any (t : Pl.Tok) (w : World) :
    Calls Tryd.prog 42 #[.agg #[.int .u8 t.k, .string t.tx, .int .i64 t.v, .int .i64 t.pos]] w fun e w' => e = .returned (.bool (Pl.endV t)) ∧ Below w.heap.size w w' := by
  have HB : Hid (∀ o, Below w.heap.size w (w.alloc o)) := fun o => (Below.refl _ _).alloc (Nat.le_refl _) _
  obtain ⟨k, tx, v, pos⟩ := t
  have HV : Hid (Pl.endV ⟨k, tx, v, pos⟩ = (decide (k = 110) || decide (k = 119) || (decide (k = 115) && decide (tx = ⟨#[41]⟩)))) := rfl
  generalize Pl.endV ⟨k, tx, v, pos⟩ = R at *
  simp only
  by_cases h1 : k = 110
  · subst h1
    have HR := hideP (show R = true by rw [HV.out]; rfl)
    clear HV
    go_enter Tryd.func42, Tryd.ntmps42
    go_wp2
    go_ret
    exact ⟨by rw [HR.out]; rfl, HB.out _⟩
  have d1 : (k == 110) = false := by simpa using h1
  by_cases h2 : k = 119
  · subst h2
    have HR := hideP (show R = true by rw [HV.out]; rfl)
    clear HV
    go_enter Tryd.func42, Tryd.ntmps42
    go_wp2
    go_ret
    exact ⟨by rw [HR.out]; rfl, HB.out _⟩
  have d2 : (k == 119) = false := by simpa using h2
  by_cases h3 : k = 115
  · subst h3
    have hq : (tx.toList == [41]) = decide (tx = ⟨#[41]⟩) := by
      have := @ba_eq tx ⟨#[41]⟩
      rw [show (⟨#[41]⟩ : ByteArray).toList = [41] from by rw [ByteArray.toList_eq]] at this
      exact this
    have HR := hideP (show R = decide (tx = ⟨#[41]⟩) by rw [HV.out]; simp)
    generalize hd : decide (tx = ⟨#[41]⟩) = d at *
    clear HV hd
    go_enter Tryd.func42, Tryd.ntmps42
    go_wp2
    go_ret
    exact ⟨by rw [HR.out]; rfl, HB.out _⟩
  · have d3 : (k == 115) = false := by simpa using h3
    have HR := hideP (show R = false by rw [HV.out]; simp [h1, h2, h3])
    clear HV h1 h2 h3
    go_enter Tryd.func42, Tryd.ntmps42
    go_wp2
    go_ret
    exact ⟨by rw [HR.out]; rfl, HB.out _⟩
set_option maxHeartbeats 4000000 in
/-- spec.l3Each2 -/
theorem l3Each2_any (t : Pl.Tok) (w : World) :
    Calls Tryd.prog 60 #[.agg #[.int .u8 t.k, .string t.tx, .int .i64 t.v, .int .i64 t.pos]] w fun e w' => e = .returned (.int .i64 (Pl.e2 t)) ∧ Below w.heap.size w w' := by
  have HB : Hid (∀ o, Below w.heap.size w (w.alloc o)) := fun o => (Below.refl _ _).alloc (Nat.le_refl _) _
  have HB2 : Hid (∀ o o2, Below w.heap.size w ((w.alloc o).alloc o2)) := fun o o2 => ((Below.refl _ _).alloc (Nat.le_refl _) _).alloc (by simp) _
  obtain ⟨k, tx, v, pos⟩ := t
  have HV : Hid (Pl.e2 ⟨k, tx, v, pos⟩ = if k = 115 then Pl.plc Pl.ops10 tx 0 else 0) := rfl
  have K72 : Hid (∀ (W : World) (b : Nat), b = W.heap.size → Calls Tryd.prog 72 #[.slice (some ⟨b, 0, none⟩) 10 10, .string tx] (W.alloc (.cells (Pl.ops10.map Value.string).toArray 9)) fun e w' => e = .returned (.int .i64 (Pl.plc Pl.ops10 tx 0)) ∧ w' = W.alloc (.cells (Pl.ops10.map Value.string).toArray 9)) := fun W b hb => l3Place_lit Pl.ops10 (by decide) W b tx hb
  generalize Pl.e2 ⟨k, tx, v, pos⟩ = R at *
  generalize Pl.plc Pl.ops10 tx 0 = p at *
  simp only
  by_cases h3 : k = 115
  · subst h3
    have HR := hideP (show R = p by rw [HV.out]; simp)
    clear HV
    go_enter Tryd.func60, Tryd.ntmps60
    go_wp2_with (go_at_call 72; refine (K72.out _ _ (by simp)).mono ?_; rintro e w2 ⟨rfl, rfl⟩)
    go_ret
    exact ⟨by rw [HR.out]; rfl, HB2.out _ _⟩
  · have d3 : (k != 115) = true := by simpa using h3
    have HR := hideP (show R = 0 by rw [HV.out]; simp [h3])
    clear HV h3 K72
    go_enter Tryd.func60, Tryd.ntmps60
    go_wp2
    go_ret
    exact ⟨by rw [HR.out]; rfl, HB.out _⟩
end Go.Proofs.YtljkolffjjhgeaaDoor
