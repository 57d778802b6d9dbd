import Derived.Test.YtaopohihipihdaaGreatDoorAt
import Derived.Lib.SplitLaws
import Derived.Lib.AtoiAll
namespace Go.Proofs.YtaopohihipihdaaGreatDoor
open Go.RowKit
set_option linter.unusedVariables false
namespace Pl

/-- a text cut at each byte c -/
def cuts (c : UInt8) : List UInt8 → List (List UInt8)
  | [] => [[]]
  | b :: l => if b = c then [] :: cuts c l else (b :: (cuts c l).headD []) :: (cuts c l).tail

theorem cuts_ne (c : UInt8) (l : List UInt8) : cuts c l ≠ [] := by
  cases l with
  | nil => simp [cuts]
  | cons b l => rw [cuts]; split <;> simp
theorem cuts_ht (c : UInt8) (l : List UInt8) : cuts c l = (cuts c l).headD [] :: (cuts c l).tail := by
  cases h : cuts c l with
  | nil => exact absurd h (cuts_ne c l)
  | cons p r => rfl
theorem cuts_app (c : UInt8) (p l : List UInt8) (h : c ∉ p) : cuts c (p ++ c :: l) = p :: cuts c l := by
  induction p with
  | nil => simp [cuts]
  | cons b p ih =>
    have hb : ¬ b = c := fun e => h (by simp [e])
    have := ih (fun m => h (List.mem_cons_of_mem _ m))
    rw [List.cons_append, cuts, if_neg hb, this]
    rfl
theorem cuts_one (c : UInt8) (p : List UInt8) (h : c ∉ p) : cuts c p = [p] := by
  induction p with
  | nil => rfl
  | cons b p ih =>
    have hb : ¬ b = c := fun e => h (by simp [e])
    rw [cuts, if_neg hb, ih (fun m => h (List.mem_cons_of_mem _ m))]
    rfl
theorem joinTail_cons (sep x : List UInt8) (r : List (List UInt8)) : Lib.joinTail sep (x :: r) = sep ++ x ++ Lib.joinTail sep r := by simp [Lib.joinTail]
theorem join_cuts (c : UInt8) (l : List UInt8) : Lib.join (cuts c l) [c] = l := by
  induction l with
  | nil => exact Lib.join_one _ _
  | cons b l ih =>
    rw [cuts_ht c l, Lib.join_cons] at ih
    rw [cuts]
    split
    · rename_i e
      rw [Lib.join_cons, cuts_ht c l, joinTail_cons, List.nil_append, List.append_assoc, ih, e]
      rfl
    · rw [Lib.join_cons, List.cons_append, ih]

theorem cuts_len (c : UInt8) (l : List UInt8) : ∀ p ∈ cuts c l, p.length ≤ l.length := by
  induction l with
  | nil => intro p hp; simp [cuts] at hp; simp [hp]
  | cons b l ih =>
    intro p hp
    rw [cuts] at hp
    split at hp
    · rcases List.mem_cons.1 hp with rfl | hp
      · simp
      · have := ih p hp; simp only [List.length_cons]; omega
    · rcases List.mem_cons.1 hp with rfl | hp
      · have := ih ((cuts c l).headD []) (by rw [cuts_ht c l]; simp)
        simp only [List.length_cons]; omega
      · have := ih p (by rw [cuts_ht c l]; exact List.mem_cons_of_mem _ hp)
        simp only [List.length_cons]; omega
theorem cuts_count (c : UInt8) (l : List UInt8) : (cuts c l).length ≤ l.length + 1 := by
  induction l with
  | nil => simp [cuts]
  | cons b l ih =>
    rw [cuts]
    split
    · simp only [List.length_cons]; omega
    · rw [cuts_ht c l] at ih
      simp only [List.length_cons] at ih ⊢; omega

theorem idx_cases (c : UInt8) (s : List UInt8) : (Lib.index s [c] = -1 ∧ c ∉ s) ∨ ∃ p l, s = p ++ c :: l ∧ c ∉ p ∧ Lib.index s [c] = (p.length : Int) := by
  induction s with
  | nil => left; simp [Lib.index]
  | cons b l ih =>
    by_cases hb : b = c
    · right
      exact ⟨[], l, by simp [hb], by simp, by rw [Lib.index]; simp [List.isPrefixOf, hb]⟩
    · have hp : ([c] : List UInt8).isPrefixOf (b :: l) = false := by simp [List.isPrefixOf, Ne.symm hb]
      have hix : Lib.index (b :: l) [c] = if Lib.index l [c] == -1 then -1 else Lib.index l [c] + 1 := by rw [Lib.index, hp]; simp
      rcases ih with ⟨h1, h2⟩ | ⟨p, r, h1, h2, h3⟩
      · left
        refine ⟨by rw [hix, if_pos (beq_iff_eq.2 h1)], fun hm => ?_⟩
        rcases List.mem_cons.1 hm with e | e
        · exact hb e.symm
        · exact h2 e
      · right
        refine ⟨b :: p, r, by rw [h1]; rfl, fun hm => ?_, ?_⟩
        · rcases List.mem_cons.1 hm with e | e
          · exact hb e.symm
          · exact h2 e
        · rw [hix, h3, if_neg (by intro e; have := beq_iff_eq.1 e; omega), List.length_cons]
          omega

theorem split_cuts (c : UInt8) : ∀ (n : Nat) (s : List UInt8), s.length ≤ n → Lib.splitK [c] 0 (Lib.count s [c]) s = cuts c s := by
  intro n
  induction n with
  | zero =>
    intro s hs
    obtain rfl := List.length_eq_zero_iff.1 (Nat.le_zero.1 hs)
    rw [Lib.count_miss (by simp [Lib.index])]
    rfl
  | succ n ih =>
    intro s hs
    rcases idx_cases c s with ⟨h1, h2⟩ | ⟨p, l, h1, h2, h3⟩
    · rw [Lib.count_miss h1, cuts_one c s h2]
      rfl
    · rw [Lib.count_hit (by simp) h3, Nat.add_comm, Lib.splitK, if_neg (by intro e; have := beq_iff_eq.1 e; omega), h3]
      have e1 : s.take ((p.length : Int).toNat + 0) = p := by rw [h1]; simp
      have e2 : s.drop ((p.length : Int).toNat + [c].length) = l := by rw [h1]; simp
      have e3 : s.drop (p.length + [c].length) = l := by rw [h1]; simp
      rw [e1, e2, e3, ih l (by rw [h1] at hs; simp at hs; omega), h1, cuts_app c p l h2]

theorem cut_hit (c : UInt8) (p l : List UInt8) (h : c ∉ p) : Lib.cut (p ++ c :: l) [c] = (p, l, true) := by
  rcases idx_cases c (p ++ c :: l) with ⟨_, h2⟩ | ⟨p', l', h1, h2, h3⟩
  · exact absurd (by simp) h2
  · have e : cuts c (p ++ c :: l) = cuts c (p' ++ c :: l') := by rw [h1]
    rw [cuts_app c p l h, cuts_app c p' l' h2] at e
    injection e with e1 e2
    subst e1
    unfold Lib.cut
    rw [if_pos (by omega), h3]
    simp

/-- digits -/
theorem dec_bytes (u : Nat) : ∀ b ∈ Lib.decDigits u, 48 ≤ b.toNat ∧ b.toNat ≤ 57 := by
  induction u using Nat.strongRecOn with
  | ind u ih =>
    intro b hb
    rw [Lib.decDigits] at hb
    split at hb
    · rename_i h
      have e := List.mem_singleton.1 hb
      subst e
      rw [UInt8.toNat_ofNat']
      omega
    · rename_i h
      rcases List.mem_append.1 hb with h1 | h1
      · exact ih (u / 10) (by omega) b h1
      · have e := List.mem_singleton.1 h1
        subst e
        rw [UInt8.toNat_ofNat']
        omega
theorem dec_head (u : Nat) : ∃ b r, Lib.decDigits u = b :: r ∧ 48 ≤ b.toNat ∧ b.toNat ≤ 57 := by
  cases h : Lib.decDigits u with
  | nil =>
    have := itoa_pos (u : Int)
    rw [Lib.itoa_nonneg, h] at this
    simp at this
  | cons b r => exact ⟨b, r, rfl, dec_bytes u b (by rw [h]; simp)⟩
theorem itoa_bytes (x : Int) : ∀ b ∈ Lib.itoa x, b.toNat = 45 ∨ (48 ≤ b.toNat ∧ b.toNat ≤ 57) := by
  intro b hb
  unfold Lib.itoa at hb
  split at hb
  · rcases List.mem_cons.1 hb with e | e
    · left; rw [e]; rfl
    · right; exact dec_bytes _ b e
  · right; exact dec_bytes _ b hb
theorem jn_bytes (zs : List Int) : ∀ b ∈ jn zs, b.toNat = 32 ∨ b.toNat = 45 ∨ (48 ≤ b.toNat ∧ b.toNat ≤ 57) := by
  intro b hb
  match zs, hb with
  | [], hb => rw [jn_nil] at hb; cases hb
  | y :: r, hb =>
    unfold jn at hb
    rw [List.map_cons, Lib.join_cons] at hb
    rcases List.mem_append.1 hb with h | h
    · right; exact itoa_bytes y b h
    · unfold Lib.joinTail at h
      obtain ⟨p, hp, hbp⟩ := List.mem_flatten.1 h
      obtain ⟨q, hq, rfl⟩ := List.mem_map.1 hp
      obtain ⟨z, hz, rfl⟩ := List.mem_map.1 hq
      rcases List.mem_append.1 hbp with h1 | h1
      · left; rw [List.mem_singleton.1 h1]; rfl
      · right; exact itoa_bytes z b h1
theorem no58 (zs : List Int) : (58 : UInt8) ∉ jn zs := by
  intro h
  have := jn_bytes zs 58 h
  have e : (58 : UInt8).toNat = 58 := rfl
  omega
theorem no32 (x : Int) : (32 : UInt8) ∉ Lib.itoa x := by
  intro h
  have := itoa_bytes x 32 h
  have e : (32 : UInt8).toNat = 32 := rfl
  omega

/-- reading what was written -/
theorem pu_snoc (l : List UInt8) (c : UInt8) (v : Nat) (hd : 48 ≤ c.toNat ∧ c.toNat ≤ 57) (hv : v < 1844674407370955162) (hs : v * 10 + (c.toNat - 48) < 18446744073709551616) :
    ∀ acc, Lib.parseUint10 acc l = .ok v → Lib.parseUint10 acc (l ++ [c]) = .ok (v * 10 + (c.toNat - 48)) := by
  induction l with
  | nil =>
    intro acc h
    simp only [Lib.parseUint10] at h
    injection h with h
    subst h
    simp only [List.nil_append, Lib.parseUint10]
    rw [if_pos hd, if_neg (by omega), if_neg (by omega)]
  | cons b l ih =>
    intro acc h
    simp only [List.cons_append, Lib.parseUint10] at h ⊢
    split at h
    · rename_i h1
      rw [if_pos h1]
      split at h
      · cases h
      · rename_i h2
        rw [if_neg h2]
        split at h
        · cases h
        · rename_i h3
          rw [if_neg h3]
          exact ih _ h
    · cases h
theorem pu_dec (u : Nat) (h : u < 9223372036854775809) : Lib.parseUint10 0 (Lib.decDigits u) = .ok u := by
  induction u using Nat.strongRecOn with
  | ind u ih =>
    rw [Lib.decDigits]
    split
    · rename_i h1
      simp only [Lib.parseUint10]
      have e : (UInt8.ofNat (48 + u)).toNat = 48 + u := by rw [UInt8.toNat_ofNat']; omega
      rw [e, if_pos (by omega), if_neg (by omega), if_neg (by omega)]
      congr 1
      omega
    · rename_i h1
      have e : (UInt8.ofNat (48 + u % 10)).toNat = 48 + u % 10 := by rw [UInt8.toNat_ofNat']; omega
      have := pu_snoc (Lib.decDigits (u / 10)) (UInt8.ofNat (48 + u % 10)) (u / 10) (by omega) (by omega) (by omega) 0 (ih (u / 10) (by omega) (by omega))
      rw [this]
      congr 1
      omega
theorem atoi_itoa (x : Int) (h0 : -9223372036854775808 ≤ x) (h1 : x ≤ 9223372036854775807) : Lib.atoiAll (Lib.itoa x) = .ok x := by
  by_cases hx : x < 0
  · obtain ⟨b, r, e, _⟩ := dec_head x.natAbs
    have p := pu_dec x.natAbs (by omega)
    have ei : Lib.itoa x = 45 :: Lib.decDigits x.natAbs := by unfold Lib.itoa; rw [if_pos hx]
    rw [ei]
    unfold Lib.atoiAll Lib.parseMag
    have n45 : (45 : UInt8).toNat = 45 := rfl
    simp only [n45]
    have q1 : (45 : Nat) = 43 ∨ True := Or.inr trivial
    have q2 : ¬ Lib.decDigits x.natAbs = [] := by rw [e]; simp
    have q3 : ¬ (¬ True ∧ 9223372036854775808 ≤ x.natAbs) := by simp
    have q4 : ¬ (True ∧ 9223372036854775808 < x.natAbs) := by omega
    rw [if_pos q1, if_neg q2, p]
    simp only
    rw [if_neg q3, if_neg q4, if_pos trivial]
    congr 1
    omega
  · obtain ⟨b, r, e, hb⟩ := dec_head x.toNat
    have p := pu_dec x.toNat (by omega)
    have ei : Lib.itoa x = Lib.decDigits x.toNat := by unfold Lib.itoa; rw [if_neg hx]
    rw [ei, e]
    rw [e] at p
    unfold Lib.atoiAll Lib.parseMag
    simp only
    have q1 : ¬ (b.toNat = 43 ∨ b.toNat = 45) := by omega
    have q2 : ¬ (b :: r = []) := by simp
    have q3 : ¬ (¬ b.toNat = 45 ∧ 9223372036854775808 ≤ x.toNat) := by omega
    have q4 : ¬ (b.toNat = 45 ∧ 9223372036854775808 < x.toNat) := by omega
    have q5 : ¬ (b.toNat = 45) := by omega
    rw [if_neg q1, if_neg q2, p]
    simp only
    rw [if_neg q3, if_neg q4, if_neg q5]
    congr 1
    omega
end Pl
end Go.Proofs.YtaopohihipihdaaGreatDoor
