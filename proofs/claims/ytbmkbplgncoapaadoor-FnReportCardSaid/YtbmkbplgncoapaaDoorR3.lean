import Derived.Test.YtbmkbplgncoapaaDoorR2
namespace Go.Proofs.YtbmkbplgncoapaaDoor
open Go.RowKit
set_option linter.unusedVariables false

namespace Pl
theorem cut_miss (c : UInt8) (l : List UInt8) (h : c ∉ l) : Lib.cut l [c] = (l, [], false) := by
  rcases idx_cases c l with ⟨h1, _⟩ | ⟨p, r, h1, _, _⟩
  · unfold Lib.cut
    rw [if_neg (by omega)]
  · exact absurd (by rw [h1]; simp) h
end Pl

/-- strings.Cut at a blank -/
theorem cut32_any (s : ByteArray) (w : World) (hl : s.size ≤ 1048576) (he : Ev w) :
    Calls Tryd.prog 50 #[.string s, .string ⟨#[32]⟩] w fun e w' => ∃ (p q : ByteArray) (f : Bool), e = .returned (.tuple #[.string p, .string q, .bool f]) ∧ Lib.cut (bl s) [32] = (bl p, bl q, f) ∧ p.size ≤ s.size ∧ q.size ≤ s.size ∧ Below w.heap.size w w' := by
  obtain ⟨_, ⟨m, hm⟩, _⟩ := he
  refine (Tryd.strings_Cut s ⟨#[32]⟩ m w (by omega) hm).mono ?_
  rintro e w' ⟨rfl, n, rfl⟩
  refine ⟨_, _, _, rfl, rfl, ?_, ?_, below_drewN (Below.refl _ _) _⟩
  · show (Lib.cut s.data.toList [32]).1.toArray.size ≤ s.size
    rw [List.size_toArray, ← bl_len]
    unfold Lib.cut
    split
    · exact List.length_take_le' _ _
    · exact Nat.le_refl _
  · show (Lib.cut s.data.toList [32]).2.1.toArray.size ≤ s.size
    rw [List.size_toArray, ← bl_len]
    unfold Lib.cut
    split
    · rw [List.length_drop]; exact Nat.sub_le _ _
    · simp

/-- strconv.Atoi, its number alone -/
theorem atoi_num (s : ByteArray) (w : World) (hl : s.size ≤ 1048576) (he : Ev w) :
    Calls Tryd.prog 93 #[.string s] w fun e w' => Below w.heap.size w w' ∧ ∃ (c : Int) (y : Value), e = .returned (.tuple #[.int .i64 c, y]) ∧ (∀ v, Pl.at1 (bl s) = some v → c = v) ∧ (bl s = [] → c = 0) := by
  obtain ⟨h1, _, ⟨t3, p3, h3⟩, ⟨t4, p4, h4⟩, h5⟩ := he
  cases h : Lib.atoiAll s.data.toList with
  | ok v =>
    refine (Tryd.strconv_Atoi_ok s (by omega) v h w).mono ?_
    rintro e w' ⟨rfl, hw⟩
    have hat : Pl.at1 (bl s) = some v := by unfold Pl.at1; show (match Lib.atoiAll s.data.toList with | .ok v => some v | _ => none) = _; rw [h]
    refine ⟨?_, v, _, rfl, fun v' h' => by rw [hat] at h'; exact Option.some.inj h', fun h0 => ?_⟩
    · rcases hw with rfl | ⟨t, rfl⟩
      · exact Below.refl _ _
      · exact Lib.bytesWorld_below _ _ _
    · exfalso
      have h0' : s.data.toList = [] := h0
      rw [h0'] at h
      cases h
  | «syntax» =>
    refine (Tryd.strconv_Atoi_syntax_var s (by omega) h t3 p3 w h3).mono ?_
    rintro e w' ⟨N, rfl, _, _, hb⟩
    have hat : Pl.at1 (bl s) = none := by unfold Pl.at1; show (match Lib.atoiAll s.data.toList with | .ok v => some v | _ => none) = _; rw [h]
    exact ⟨hb, 0, _, rfl, (fun v' h' => by rw [hat] at h'; cases h'), fun _ => rfl⟩
  | range =>
    refine (Tryd.strconv_Atoi_range_var s (by omega) h t4 p4 w h4).mono ?_
    rintro e w' ⟨N, rfl, _, _, hb⟩
    have hat : Pl.at1 (bl s) = none := by unfold Pl.at1; show (match Lib.atoiAll s.data.toList with | .ok v => some v | _ => none) = _; rw [h]
    refine ⟨hb, _, _, rfl, (fun v' h' => by rw [hat] at h'; cases h'), fun h0 => ?_⟩
    exfalso
    have h0' : s.data.toList = [] := h0
    rw [h0'] at h
    cases h

theorem kwd_inj {i j : Nat} {x : ByteArray} (hi : kwd[i]? = some x) (hj : kwd[j]? = some x) : i = j := by
  have li := (List.getElem?_eq_some_iff.1 hi).1
  have lj := (List.getElem?_eq_some_iff.1 hj).1
  have key : ∀ i j : Fin 6, (kwd[i.val]?).map (fun b => b.data.toList) = (kwd[j.val]?).map (fun b => b.data.toList) → i = j := by decide
  have := key ⟨i, li⟩ ⟨j, lj⟩ (by show (kwd[i]?).map _ = (kwd[j]?).map _; rw [hi, hj])
  exact congrArg Fin.val this

set_option maxRecDepth 100000 in
set_option maxHeartbeats 2000000 in
/-- impl.kindOf -/
theorem kindOf_any (s : ByteArray) (w : World) (hk : Kw w) : Calls Tryd.prog 103 #[.string s] w fun e w' => ∃ k : Int, e = .returned (.int .i64 k) ∧ w' = w ∧ ∀ j : Nat, 1 ≤ j → kwd[j]? = some s → k = j := by
  obtain ⟨g, off, cap, q1, q2, q3, q4⟩ := hk.at0
  have Q4 := hideP q4
  clear hk q4
  go_enter Tryd.func103, Tryd.ntmps103
  go_wp2_with fail
  go_loop [7] (fun i => ∃ k : Nat, k ≤ 6 ∧ i = .int .i64 (k : Int) ∧ Hid (∀ j : Nat, j < k → ¬ kwd[j]? = some s)) (fun i => 6 - (intOf i).toNat)
  case atStart => exact ⟨0, by omega, rfl, fun j hj => by omega⟩
  case round =>
    obtain ⟨k, hk, rfl, hno⟩ := hrel
    by_cases hlt : k < 6
    · have hlt' : (k : Int) < 6 := by omega
      obtain ⟨x, hx⟩ : ∃ x, kwd[k]? = some x := ⟨_, List.getElem?_eq_getElem (show k < kwd.length from hlt)⟩
      have c0 := Q4.out k x hx
      by_cases hq : x = s
      · have hq' : (x.toList == s.toList) = true := by rw [ba_eq]; exact decide_eq_true hq
        have HQ : Hid (∀ j : Nat, 1 ≤ j → kwd[j]? = some s → (k : Int) = j) := fun j _ hj => by rw [← hq] at hj; rw [kwd_inj hx hj]
        clear hq hx hno
        go_wp2_with fail
        go_ret
        exact ⟨_, rfl, rfl, HQ.out⟩
      · have hq' : (x.toList == s.toList) = false := by rw [ba_eq]; exact decide_eq_false hq
        have HN : Hid (∀ j : Nat, j < k + 1 → ¬ kwd[j]? = some s) := fun j hj => by
          by_cases h : j < k
          · exact hno.out j h
          · obtain rfl : j = k := by omega
            rw [hx]
            exact fun e => hq (Option.some.inj e)
        clear hq hx hno
        go_wp2_with fail
        go_round
        case rel => exact ⟨k + 1, by omega, by go_num, HN⟩
        case measure => simp [intOf]; omega
    · have hlt' : ¬ (k : Int) < 6 := by omega
      have HQ : Hid (∀ j : Nat, 1 ≤ j → kwd[j]? = some s → (0 : Int) = j) := fun j _ hj => by
        have := (List.getElem?_eq_some_iff.1 hj).1
        have h6 : kwd.length = 6 := rfl
        exact absurd hj (hno.out j (by omega))
      clear hno
      go_wp2_with fail
      go_ret
      exact ⟨_, rfl, rfl, HQ.out⟩

theorem word_no32 {k c : Int} (h : Pl.vB k c = true) (h3 : ¬ k = 3) : (32 : UInt8) ∉ Pl.wordL k c := by
  unfold Pl.wordL
  rw [if_neg h3]
  split
  · decide
  · split
    · decide
    · split <;> decide
theorem word_kwd {k c : Int} (h : Pl.vB k c = true) (h3 : ¬ k = 3) : ∃ j : Nat, 1 ≤ j ∧ (j : Int) = k ∧ (kwd[j]?).map bl = some (Pl.wordL k c) := by
  have r := Pl.vB_range h
  have q : k = 1 ∨ k = 2 ∨ k = 4 ∨ k = 5 := by omega
  rcases q with rfl | rfl | rfl | rfl
  · exact ⟨1, by omega, rfl, rfl⟩
  · exact ⟨2, by omega, rfl, rfl⟩
  · exact ⟨4, by omega, rfl, rfl⟩
  · exact ⟨5, by omega, rfl, rfl⟩
theorem bl_inj {a b : ByteArray} (h : bl a = bl b) : a = b := by
  apply ByteArray.ext
  exact Array.toList_inj.1 h

/-- what the three cuts of a verdict's line give -/
theorem line_read {s p1 q1 p2 q2 p3 q3 : ByteArray} {f1 f2 f3 : Bool} {i : Nat} {v : Pl.Vt} {k c : Int} (hv : Pl.vB v.1 v.2 = true) (hs : bl s = Pl.lin i v)
    (c1 : Lib.cut (bl s) [32] = (bl p1, bl q1, f1)) (c2 : Lib.cut (bl q1) [32] = (bl p2, bl q2, f2)) (c3 : Lib.cut (bl q2) [32] = (bl p3, bl q3, f3))
    (hc : (∀ x, Pl.at1 (bl q3) = some x → c = x) ∧ (bl q3 = [] → c = 0)) (hk : ∀ j : Nat, 1 ≤ j → kwd[j]? = some p3 → k = j) : (k, c) = v := by
  have e1 : bl s = [116, 101, 115, 116] ++ 32 :: (Lib.itoa ((i : Int) + 1) ++ 32 :: Pl.wordL v.1 v.2) := by
    rw [hs]
    unfold Pl.lin
    simp
  rw [e1, Pl.cut_hit 32 _ _ (by decide)] at c1
  simp only [Prod.mk.injEq] at c1
  rw [← c1.2.1, Pl.cut_hit 32 _ _ (Pl.no32 _)] at c2
  simp only [Prod.mk.injEq] at c2
  rw [← c2.2.1] at c3
  obtain ⟨vk, vc⟩ := v
  simp only at hv c3 ⊢
  by_cases h3 : vk = 3
  · subst h3
    have ew : Pl.wordL 3 vc = [101, 114, 114, 111, 114] ++ 32 :: Lib.itoa vc := by
      unfold Pl.wordL
      rw [if_pos rfl]
      simp
    rw [ew, Pl.cut_hit 32 _ _ (by decide)] at c3
    simp only [Prod.mk.injEq] at c3
    have r := (Pl.vB_range hv).2.2 rfl
    have hc' := hc.1 vc (by
      rw [← c3.2.1]
      unfold Pl.at1
      rw [Pl.atoi_itoa vc (by omega) (by omega)])
    have hp : p3 = ⟨#[101, 114, 114, 111, 114]⟩ := bl_inj c3.1.symm
    have hk' := hk 3 (by omega) (by rw [hp]; rfl)
    rw [hc', hk']
    rfl
  · rw [Pl.cut_miss 32 _ (word_no32 hv h3)] at c3
    simp only [Prod.mk.injEq] at c3
    have z : vc = 0 := by
      unfold Pl.vB at hv
      rw [if_neg h3, Bool.and_eq_true] at hv
      exact of_decide_eq_true hv.2
    obtain ⟨j, hj1, hj2, hj3⟩ := word_kwd hv h3
    obtain ⟨x, hx, hxe⟩ := Option.map_eq_some_iff.1 hj3
    have hp : x = p3 := bl_inj (hxe.trans c3.1)
    have hk' := hk j hj1 (by rw [hx, hp])
    have hc' := hc.2 c3.2.1.symm
    rw [hk', hc', z, hj2]

set_option maxRecDepth 100000 in
set_option maxHeartbeats 4000000 in
/-- impl.readVerdict -/
theorem readVerdict_any (s : ByteArray) (w : World) (hl : s.size ≤ 1048576) (hev : Ev w) (hk : Kw w) : Calls Tryd.prog 71 #[.string s] w (VPost w (LRd s)) := by
  have BA : Hid (Below w.heap.size w (w.alloc (.cells #[.int .i64 0, .int .i64 0] 78))) := (Below.refl _ _).alloc (Nat.le_refl _) _
  have SA := hideP (Slv.new w)
  have HE := hideP hev
  have HK := hideP hk
  clear hev hk
  go_enter Tryd.func71, Tryd.ntmps71
  go_wp2_with fail
  refine (cut32_any s _ hl (HE.out.keep BA.out)).mono ?_
  rintro e w1 ⟨p1, q1, f1, rfl, c1, _, z1, hb1⟩
  have B1 := hideP (BA.out.trans (hb1.mono BA.out.size))
  have S1 := hideP (SA.out.keep hb1)
  have C1 := hideP c1
  clear hb1 c1 BA SA
  go_wp2_with fail
  refine (cut32_any q1 _ (by omega) (HE.out.keep B1.out)).mono ?_
  rintro e w2 ⟨p2, q2, f2, rfl, c2, _, z2, hb2⟩
  have B2 := hideP (B1.out.trans (hb2.mono B1.out.size))
  have S2 := hideP (S1.out.keep hb2)
  have C2 := hideP c2
  clear hb2 c2 B1 S1
  go_wp2_with fail
  refine (cut32_any q2 _ (by omega) (HE.out.keep B2.out)).mono ?_
  rintro e w3 ⟨p3, q3, f3, rfl, c3, _, z3, hb3⟩
  have B3 := hideP (B2.out.trans (hb3.mono B2.out.size))
  have S3 := hideP (S2.out.keep hb3)
  have C3 := hideP c3
  clear hb3 c3 B2 S2
  go_wp2_with fail
  refine (atoi_num q3 _ (by omega) (HE.out.keep B3.out)).mono ?_
  rintro e w4 ⟨hb4, c, y, rfl, hc⟩
  have B4 := hideP (B3.out.trans (hb4.mono B3.out.size))
  have S4 := hideP (S3.out.keep hb4)
  have HC := hideP hc
  clear hb4 hc B3 S3
  go_wp2_with fail
  refine (kindOf_any p3 _ (HK.out.keep B4.out)).mono ?_
  rintro e w5 ⟨k, rfl, rfl, hkk⟩
  have HQ : Hid (∀ (i : Nat) (v : Pl.Vt), Pl.vB v.1 v.2 = true → bl s = Pl.lin i v → (k, c) = v) := fun i v hv hs => line_read hv hs C1.out C2.out C3.out HC.out hkk
  have BR := hideP (below2 B4.out (.int .i64 k) (.int .i64 c))
  obtain ⟨_, s0, s1, sf⟩ := S4.out
  clear hkk
  go_wp2_with fail
  refine bodyPost_ret (v := .agg #[.int .i64 k, .int .i64 c]) (by simp [results, Tryd.results71, go_sem, s0, s1]) rfl ⟨BR.out, _, _, rfl, HQ.out⟩

end Go.Proofs.YtbmkbplgncoapaaDoor
