import Derived.Test.YtaopohihipihdaaGreatDoorPz
namespace Go.Proofs.YtaopohihipihdaaGreatDoor
open Go.RowKit
set_option linter.unusedVariables false
namespace Pl

/-- the reading of a decimal: where, what so far, how many digits -/
def numF : Nat → Nat → Nat → List UInt8 → Option (Nat × Nat)
  | _, v, dg, [] => some (v, dg)
  | i, v, dg, b :: l => if 48 ≤ b.toNat ∧ b.toNat ≤ 57 ∧ dg < 10 then numF (i + 1) (v * 10 + (b.toNat - 48)) (dg + 1) l else if 0 < i ∨ ¬ b.toNat = 45 then none else numF (i + 1) v dg l
def sgn (s : List UInt8) (v : Nat) : Int := if s.head? = some 45 then -(v : Int) else v
def num (s : List UInt8) : Option Int :=
  match numF 0 0 0 s with
  | none => none
  | some (v, dg) => if 0 < dg ∧ Lib.itoa (sgn s v) = s then some (sgn s v) else none

theorem numF_bd (l : List UInt8) : ∀ i v dg v' dg', numF i v dg l = some (v', dg') → v < 10 ^ dg → dg ≤ 10 → v' < 10 ^ dg' ∧ dg' ≤ 10 := by
  induction l with
  | nil =>
    intro i v dg v' dg' h h1 h2
    simp only [numF, Option.some.injEq, Prod.mk.injEq] at h
    obtain ⟨rfl, rfl⟩ := h
    exact ⟨h1, h2⟩
  | cons b l ih =>
    intro i v dg v' dg' h h1 h2
    rw [numF] at h
    split at h
    · rename_i hd
      refine ih _ _ _ _ _ h ?_ (by omega)
      rw [Nat.pow_succ]
      omega
    · split at h
      · cases h
      · exact ih _ _ _ _ _ h h1 h2
theorem sgn_bd {s : List UInt8} {v : Nat} (h : v ≤ 9999999999) : -9999999999 ≤ sgn s v ∧ sgn s v ≤ 9999999999 := by
  unfold sgn
  split <;> omega
theorem num_some {s : List UInt8} {x : Int} (h : num s = some x) : Lib.itoa x = s ∧ -9999999999 ≤ x ∧ x ≤ 9999999999 := by
  unfold num at h
  split at h
  · cases h
  · rename_i v dg hn
    split at h
    · rename_i hc
      have e := Option.some.inj h
      subst e
      have := numF_bd s 0 0 0 v dg hn (by simp) (by omega)
      have h10 : 10 ^ dg ≤ 10 ^ 10 := Nat.pow_le_pow_right (by omega) this.2
      have h10' : (10 : Nat) ^ 10 = 10000000000 := by decide
      exact ⟨hc.2, sgn_bd (by omega)⟩
    · cases h
theorem numF_snoc (l : List UInt8) (b : UInt8) (hb : 48 ≤ b.toNat ∧ b.toNat ≤ 57) : ∀ i v dg v' dg', numF i v dg l = some (v', dg') → dg' < 10 → numF i v dg (l ++ [b]) = some (v' * 10 + (b.toNat - 48), dg' + 1) := by
  induction l with
  | nil =>
    intro i v dg v' dg' h h1
    simp only [numF, Option.some.injEq, Prod.mk.injEq] at h
    obtain ⟨rfl, rfl⟩ := h
    rw [List.nil_append, numF, if_pos ⟨hb.1, hb.2, h1⟩, numF]
  | cons c l ih =>
    intro i v dg v' dg' h h1
    rw [numF] at h
    rw [List.cons_append, numF]
    split at h
    · rename_i hd
      rw [if_pos hd]
      exact ih _ _ _ _ _ h h1
    · rename_i hd
      rw [if_neg hd]
      split at h
      · cases h
      · rename_i h2
        rw [if_neg h2]
        exact ih _ _ _ _ _ h h1
theorem numF_dec (i : Nat) : ∀ (k u : Nat), k ≤ 9 → u < 10 ^ (k + 1) → ∃ dg, numF i 0 0 (Lib.decDigits u) = some (u, dg) ∧ 0 < dg ∧ dg ≤ k + 1 := by
  intro k
  induction k with
  | zero =>
    intro u hk hu
    rw [Lib.decDigits_one (by simpa using hu)]
    have hu' : u < 10 := by simpa using hu
    have e : (UInt8.ofNat (48 + u)).toNat = 48 + u := by rw [UInt8.toNat_ofNat']; omega
    refine ⟨1, ?_, by omega, by omega⟩
    rw [numF, if_pos (by rw [e]; omega), numF, e]
    congr 2
    omega
  | succ k ih =>
    intro u hk hu
    by_cases h10 : u < 10
    · rw [Lib.decDigits_one h10]
      have e : (UInt8.ofNat (48 + u)).toNat = 48 + u := by rw [UInt8.toNat_ofNat']; omega
      refine ⟨1, ?_, by omega, by omega⟩
      rw [numF, if_pos (by rw [e]; omega), numF, e]
      congr 2
      omega
    · rw [Nat.pow_succ] at hu
      obtain ⟨dg, h1, h2, h3⟩ := ih (u / 10) (by omega) (by omega)
      have e : (UInt8.ofNat (48 + u % 10)).toNat = 48 + u % 10 := by rw [UInt8.toNat_ofNat']; omega
      rw [Lib.decDigits, dif_neg h10]
      refine ⟨dg + 1, ?_, by omega, by omega⟩
      rw [numF_snoc _ _ (by omega) _ _ _ _ _ h1 (by omega), e]
      congr 2
      omega
theorem num_itoa {x : Int} (h0 : -9999999999 ≤ x) (h1 : x ≤ 9999999999) : num (Lib.itoa x) = some x := by
  by_cases hx : x < 0
  · have ei : Lib.itoa x = 45 :: Lib.decDigits x.natAbs := by unfold Lib.itoa; rw [if_pos hx]
    obtain ⟨dg, e1, e2, e3⟩ := numF_dec 1 9 x.natAbs (by omega) (Nat.lt_of_lt_of_eq (show _ < 10000000000 by omega) (by decide))
    have n45 : (45 : UInt8).toNat = 45 := rfl
    have hn : numF 0 0 0 (Lib.itoa x) = some (x.natAbs, dg) := by
      rw [ei, numF, if_neg (by rw [n45]; omega), if_neg (by rw [n45]; omega)]
      exact e1
    have hs : sgn (Lib.itoa x) x.natAbs = x := by
      unfold sgn
      rw [ei, if_pos (by rfl)]
      omega
    unfold num
    rw [hn]
    simp only
    rw [hs, if_pos ⟨e2, rfl⟩]
  · have ei : Lib.itoa x = Lib.decDigits x.toNat := by unfold Lib.itoa; rw [if_neg hx]
    obtain ⟨dg, e1, e2, e3⟩ := numF_dec 0 9 x.toNat (by omega) (Nat.lt_of_lt_of_eq (show _ < 10000000000 by omega) (by decide))
    have hn : numF 0 0 0 (Lib.itoa x) = some (x.toNat, dg) := by rw [ei]; exact e1
    have hs : sgn (Lib.itoa x) x.toNat = x := by
      unfold sgn
      obtain ⟨b, r, e, hb⟩ := dec_head x.toNat
      rw [ei, e, if_neg]
      · omega
      · intro h
        have h2 : b = 45 := by simpa using h
        rw [h2] at hb
        have n45 : (45 : UInt8).toNat = 45 := rfl
        omega
    unfold num
    rw [hn]
    simp only
    rw [hs, if_pos ⟨e2, rfl⟩]

/-- the words of a text -/
def parts (s : List UInt8) : List (List UInt8) := if s = [] then [] else cuts 32 s
theorem cuts_jn (zs : List Int) : ∀ y, cuts 32 (jn (y :: zs)) = (y :: zs).map Lib.itoa := by
  induction zs with
  | nil => intro y; rw [jn_snoc0, cuts_one 32 _ (no32 y)]; rfl
  | cons z zs ih =>
    intro y
    have e : jn (y :: z :: zs) = Lib.itoa y ++ 32 :: jn (z :: zs) := by
      unfold jn
      rw [List.map_cons, List.map_cons, Lib.join_cons, joinTail_cons, Lib.join_cons]
      simp
    rw [e, cuts_app 32 _ _ (no32 y), ih z]
    rfl
theorem jn_ne (y : Int) (zs : List Int) : jn (y :: zs) ≠ [] := by
  intro h
  unfold jn at h
  rw [List.map_cons, Lib.join_cons] at h
  have := itoa_pos y
  rw [List.append_eq_nil_iff] at h
  rw [h.1] at this
  simp at this
theorem parts_jn (zs : List Int) : parts (jn zs) = zs.map Lib.itoa := by
  unfold parts
  cases zs with
  | nil => rfl
  | cons y zs => rw [if_neg (jn_ne y zs), cuts_jn]
theorem jn_parts {s : List UInt8} {zs : List Int} (h : parts s = zs.map Lib.itoa) : jn zs = s := by
  unfold parts at h
  split at h
  · rename_i e
    cases zs with
    | nil => rw [e]; rfl
    | cons y zs => simp at h
  · unfold jn
    rw [← h, join_cuts]

/-- what the specification reads -/
def Nums (s : List UInt8) (zs : List Int) : Prop := (parts s).map num = zs.map some
theorem nums_iff (s : List UInt8) (zs : List Int) : Nums s zs ↔ jn zs = s ∧ ∀ z ∈ zs, -9999999999 ≤ z ∧ z ≤ 9999999999 := by
  unfold Nums
  constructor
  · intro h
    have key : ∀ (ps : List (List UInt8)) (zs : List Int), ps.map num = zs.map some → ps = zs.map Lib.itoa ∧ ∀ z ∈ zs, -9999999999 ≤ z ∧ z ≤ 9999999999 := by
      intro ps
      induction ps with
      | nil =>
        intro zs h
        cases zs with
        | nil => exact ⟨rfl, fun z hz => by cases hz⟩
        | cons z zs => simp at h
      | cons p ps ih =>
        intro zs h
        cases zs with
        | nil => simp at h
        | cons z zs =>
          simp only [List.map_cons, List.cons.injEq] at h
          obtain ⟨e1, e2⟩ := num_some h.1
          obtain ⟨e3, e4⟩ := ih zs h.2
          refine ⟨by rw [List.map_cons, e1, e3], fun x hx => ?_⟩
          rcases List.mem_cons.1 hx with rfl | hx
          · exact e2
          · exact e4 x hx
    obtain ⟨h1, h2⟩ := key _ _ h
    exact ⟨jn_parts h1, h2⟩
  · rintro ⟨rfl, h⟩
    rw [parts_jn, List.map_map]
    refine List.map_congr_left fun z hz => ?_
    exact num_itoa (h z hz).1 (h z hz).2
theorem some_inj {zs zs' : List Int} (h : zs.map some = zs'.map some) : zs = zs' := by
  have : ∀ l : List Int, (l.map some).filterMap id = l := fun l => by
    induction l with
    | nil => rfl
    | cons a l ih => simp
  rw [← this zs, ← this zs', h]
theorem nums_fun {s : List UInt8} {zs zs' : List Int} (h : Nums s zs) (h' : Nums s zs') : zs = zs' := some_inj (h.symm.trans h')

/-- what the program reads -/
def at1 (p : List UInt8) : Option Int := match Lib.atoiAll p with
  | .ok v => some v
  | _ => none
def Reads (s : List UInt8) (zs : List Int) : Prop := (parts s).map at1 = zs.map some
theorem reads_jn (zs : List Int) (h : ∀ z ∈ zs, -9223372036854775808 ≤ z ∧ z ≤ 9223372036854775807) : Reads (jn zs) zs := by
  unfold Reads
  rw [parts_jn, List.map_map]
  refine List.map_congr_left fun z hz => ?_
  show at1 (Lib.itoa z) = some z
  unfold at1
  rw [atoi_itoa z (h z hz).1 (h z hz).2]
theorem reads_fun {s : List UInt8} {zs zs' : List Int} (h : Reads s zs) (h' : Reads s zs') : zs = zs' := some_inj (h.symm.trans h')

/-- a text is an array's -/
def Wr (t : List UInt8) (sh da : List Int) : Prop := okB sh da = true ∧ jn sh ++ 58 :: jn da = t
theorem wr_cuts {t : List UInt8} {sh da : List Int} (h : Wr t sh da) : cuts 58 t = [jn sh, jn da] := by
  rw [← h.2, cuts_app 58 _ _ (no58 sh), cuts_one 58 _ (no58 da)]
theorem ok_sh' {sh da : List Int} (h : okB sh da = true) : ∀ x ∈ sh, -9999999999 ≤ x ∧ x ≤ 9999999999 := by
  simp only [okB, fitsB, baseB, Bool.and_eq_true, decide_eq_true_eq, List.all_eq_true] at h
  intro x hx
  have := inR_bd (h.1.1.1.2 x hx)
  omega
theorem ok_da' {sh da : List Int} (h : okB sh da = true) : ∀ x ∈ da, -9999999999 ≤ x ∧ x ≤ 9999999999 := by
  simp only [okB, fitsB, Bool.and_eq_true, decide_eq_true_eq, List.all_eq_true] at h
  intro x hx
  have := h.2 x hx
  simp only [valB, decide_eq_true_eq] at this
  omega
theorem wr_nums {t : List UInt8} {sh da : List Int} (h : Wr t sh da) : Nums (jn sh) sh ∧ Nums (jn da) da :=
  ⟨(nums_iff _ _).2 ⟨rfl, ok_sh' h.1⟩, (nums_iff _ _).2 ⟨rfl, ok_da' h.1⟩⟩
theorem wr_reads {t : List UInt8} {sh da : List Int} (h : Wr t sh da) : Reads (jn sh) sh ∧ Reads (jn da) da :=
  ⟨reads_jn _ fun z hz => by have := ok_sh' h.1 z hz; omega, reads_jn _ fun z hz => by have := ok_da' h.1 z hz; omega⟩
theorem wr_fun {t : List UInt8} {sh da sh' da' : List Int} (h : Wr t sh da) (h' : Wr t sh' da') : sh = sh' ∧ da = da' := by
  have e := (wr_cuts h).symm.trans (wr_cuts h')
  simp only [List.cons.injEq, and_true] at e
  have a := (wr_nums h)
  have b := (wr_nums h')
  rw [e.1, e.2] at a
  exact ⟨nums_fun a.1 b.1, nums_fun a.2 b.2⟩
theorem wr_cut {t : List UInt8} {sh da : List Int} (h : Wr t sh da) : Lib.cut t [58] = (jn sh, jn da, true) := by
  rw [← h.2, cut_hit 58 _ _ (no58 sh)]

open Classical in
/-- what a text is read as -/
noncomputable def par (t : List UInt8) : Option (List Int × List Int) := if h : t.length ≤ 20000 ∧ ∃ p : List Int × List Int, Wr t p.1 p.2 then some h.2.choose else none
noncomputable def parC (t : List UInt8) : Int := if (par t).isSome then 0 else 1
noncomputable def parS (t : List UInt8) : List Int := ((par t).getD ([], [])).1
noncomputable def parD (t : List UInt8) : List Int := ((par t).getD ([], [])).2
theorem par_yes {t : List UInt8} {sh da : List Int} (hl : t.length ≤ 20000) (h : Wr t sh da) : parC t = 0 ∧ parS t = sh ∧ parD t = da := by
  have hp : t.length ≤ 20000 ∧ ∃ p : List Int × List Int, Wr t p.1 p.2 := ⟨hl, (sh, da), h⟩
  have e : par t = some hp.2.choose := by unfold par; rw [dif_pos hp]
  have e2 := wr_fun hp.2.choose_spec h
  unfold parC parS parD
  rw [e]
  exact ⟨rfl, e2.1, e2.2⟩
theorem par_no {t : List UInt8} (h : t.length ≤ 20000 → ∀ sh da, ¬ Wr t sh da) : parC t = 1 ∧ parS t = [] ∧ parD t = [] := by
  have e : par t = none := by unfold par; rw [dif_neg (fun hp => h hp.1 _ _ hp.2.choose_spec)]
  unfold parC parS parD
  rw [e]
  exact ⟨rfl, rfl, rfl⟩
end Pl
end Go.Proofs.YtaopohihipihdaaGreatDoor
