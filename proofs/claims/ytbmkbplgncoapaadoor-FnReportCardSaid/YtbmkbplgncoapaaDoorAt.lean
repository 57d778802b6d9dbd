import Derived.Test.YtbmkbplgncoapaaDoorNt
import Derived.Lib.QuietBelow
namespace Go.Proofs.YtbmkbplgncoapaaDoor
open Go.RowKit Go.Sort
set_option linter.unusedVariables false

namespace Pl
/-- an array's text -/
def txt (sh da : List Int) : ByteArray := if okB sh da then ⟨(jn sh).toArray⟩ ++ ⟨#[58]⟩ ++ ⟨(jn da).toArray⟩ else ByteArray.empty
theorem ok_sh {sh da : List Int} (h : okB sh da = true) : sh.length ≤ 3 ∧ ∀ x ∈ sh, -9223372036854775807 ≤ x ∧ x ≤ 9223372036854775807 := by
  simp only [okB, fitsB, baseB, Bool.and_eq_true, decide_eq_true_eq, List.all_eq_true] at h
  refine ⟨h.1.1.1.1, fun x hx => ?_⟩
  have := inR_bd (h.1.1.1.2 x hx)
  omega
theorem ok_da {sh da : List Int} (h : okB sh da = true) : da.length ≤ 1000 ∧ ∀ x ∈ da, -9223372036854775807 ≤ x ∧ x ≤ 9223372036854775807 := by
  simp only [okB, fitsB, Bool.and_eq_true, decide_eq_true_eq, List.all_eq_true] at h
  refine ⟨by have := h.1.1.2; have := h.1.2; omega, fun x hx => ?_⟩
  have := h.2 x hx
  simp only [valB, decide_eq_true_eq] at this
  omega
theorem jn_size {zs : List Int} (hl : zs.length ≤ 1000) (hv : ∀ x ∈ zs, -9223372036854775807 ≤ x ∧ x ≤ 9223372036854775807) : (⟨(jn zs).toArray⟩ : ByteArray).size ≤ 22000 := by
  have := jn_len zs hv
  show (jn zs).toArray.size ≤ _
  rw [List.size_toArray]
  omega
end Pl

set_option maxRecDepth 100000 in
set_option maxHeartbeats 2000000 in
theorem l1Join_nil (ao : Option Addr) (cap : Nat) (w : World) : Calls Tryd.prog 43 #[.slice ao 0 cap] w fun e w' => e = .returned (.string ⟨(Pl.jn []).toArray⟩) ∧ Below w.heap.size w w' := by
  have OE : Hid ((w.alloc (.cells #[] 5)).ownsRow w.heap.size 5 1 (.slice (some ⟨w.heap.size, 0, none⟩) 0 0) 0 (Lib.byteCells [])) := World.ownsRow_lit w #[] 0 (Nat.le_refl _) (by unfold maxLen; omega) rfl
  have BE : Hid (Below w.heap.size w (w.alloc (.cells #[] 5))) := (Below.refl _ _).alloc (Nat.le_refl _) _
  go_enter Tryd.func43, Tryd.ntmps43
  go_wp2_with fail
  go_loopw [3, 4] (fun ov i wr => i = .int .i64 0 ∧ Hid (wr.ownsRow w.heap.size 5 1 ov 0 (Lib.byteCells [])) ∧ Hid (Below w.heap.size w wr)) (fun _ _ _ => 0)
  case atStart => exact ⟨rfl, OE, BE⟩
  case round =>
    obtain ⟨rfl, hO, BB⟩ := hrel
    have kc := conv_row [] _ wr hO.out
    go_wp2_with fail
    go_ret
    exact ⟨rfl, BB.out⟩

theorem l1Join_rd (v : Value) (zs : List Int) (w : World) (hl : zs.length ≤ 1000) (hv : ∀ x ∈ zs, -9223372036854775807 ≤ x ∧ x ≤ 9223372036854775807) (h : Rd w.heap.size w v zs) :
    Calls Tryd.prog 43 #[v] w fun e w' => e = .returned (.string ⟨(Pl.jn zs).toArray⟩) ∧ Below w.heap.size w w' := by
  obtain ⟨ao, cap, rfl, h⟩ := h
  rcases h with h | ⟨b, off, hb, rfl, hc⟩
  · obtain rfl := List.length_eq_zero_iff.1 h
    exact l1Join_nil ao cap w
  · exact l1Join_any b off cap zs w hl hv hb hc

set_option maxRecDepth 100000 in
set_option maxHeartbeats 2000000 in
theorem numbersText_nil (ao : Option Addr) (cap : Nat) (w : World) : Calls Tryd.prog 46 #[.slice ao 0 cap] w fun e w' => e = .returned (.string ⟨(Pl.jn []).toArray⟩) ∧ Below w.heap.size w w' := by
  obtain ⟨i0, hi, hz0, hz1, hz2⟩ := info_parts Tryd.info9
  go_enter Tryd.func46, Tryd.ntmps46
  go_wp2_with (at_make; refine wpList_make_full _ rfl _ _ 68 rfl w.heap.size 9 i0 (.string ByteArray.empty) 1 Tryd.underlying68 hi hz0 hz1 _ _ _ _ 0 rfl rfl rfl rfl ?b2 ?b3 ?b4 ?_)
  case b2 => rw [hz2]; omega
  case b3 => unfold maxLen; omega
  case b4 => exact Nat.le_refl _
  intro w1 hown hgrow
  have hbel := hideP ((Below.refl _ _).grown hgrow (Nat.le_refl _) (by intro k h; cases h))
  clear hgrow hi hz0 hz1 hz2 hown
  go_wp2_with fail
  go_loopw [11] (fun i wr => i = .int .i64 0 ∧ wr = w1) (fun _ _ => 0)
  case atStart => exact ⟨rfl, rfl⟩
  case round =>
    obtain ⟨rfl, rfl⟩ := hrel
    go_wp2_with fail
    refine (Tryd.strings_Join_none _ _ _ _).mono ?_
    rintro e w4 ⟨rfl, rfl⟩
    go_wp2_with fail
    go_ret
    exact ⟨rfl, hbel.out⟩

theorem numbersText_rd (v : Value) (zs : List Int) (w : World) (hl : zs.length ≤ 1000) (hv : ∀ x ∈ zs, -9223372036854775807 ≤ x ∧ x ≤ 9223372036854775807) (ht : Tab w) (h : Rd w.heap.size w v zs) :
    Calls Tryd.prog 46 #[v] w fun e w' => e = .returned (.string ⟨(Pl.jn zs).toArray⟩) ∧ Below w.heap.size w w' := by
  obtain ⟨ao, cap, rfl, h⟩ := h
  rcases h with h | ⟨b, off, hb, rfl, hc⟩
  · obtain rfl := List.length_eq_zero_iff.1 h
    exact numbersText_nil ao cap w
  · exact numbersText_core b off cap zs w hl hv ht hb hc

set_option maxRecDepth 100000 in
set_option maxHeartbeats 2000000 in
/-- spec.ArrayText -/
theorem specText_any (v0 v1 : Value) (sh da : List Int) (w : World) (hl0 : sh.length ≤ 1048576) (hl1 : da.length ≤ 1048576) (h0 : Rd w.heap.size w v0 sh) (h1 : Rd w.heap.size w v1 da) :
    Calls Tryd.prog 11 #[.agg #[v0, v1]] w fun e w' => e = .returned (.tuple #[.string (Pl.txt sh da), .bool (Pl.okB sh da)]) ∧ Below w.heap.size w w' := by
  have H0 := hideP h0
  have H1 := hideP h1
  clear h0 h1
  have A : Hid (∀ o, Below w.heap.size w (w.alloc o)) := fun o => (Below.refl _ _).alloc (Nat.le_refl _) _
  unfold Pl.txt
  by_cases hok : Pl.okB sh da = true
  · obtain ⟨l0, x0⟩ := Pl.ok_sh hok
    obtain ⟨l1, x1⟩ := Pl.ok_da hok
    have l0' : sh.length ≤ 1000 := by omega
    have z0 := Pl.jn_size l0' x0
    have z1 := Pl.jn_size l1 x1
    have K0 : Hid (∀ W, Below w.heap.size w W → Calls Tryd.prog 43 #[v0] W fun e w' => e = .returned (.string ⟨(Pl.jn sh).toArray⟩) ∧ Below W.heap.size W w') := fun W hW => l1Join_rd v0 sh W l0' x0 ((H0.out.keep hW).up hW.size)
    have K1 : Hid (∀ W, Below w.heap.size w W → Calls Tryd.prog 43 #[v1] W fun e w' => e = .returned (.string ⟨(Pl.jn da).toArray⟩) ∧ Below W.heap.size W w') := fun W hW => l1Join_rd v1 da W l1 x1 ((H1.out.keep hW).up hW.size)
    rw [if_pos hok]
    generalize (⟨(Pl.jn sh).toArray⟩ : ByteArray) = s0 at *
    generalize (⟨(Pl.jn da).toArray⟩ : ByteArray) = s1 at *
    have HOK := hideP hok
    clear l0 x0 l1 x1 hok l0'
    go_enter Tryd.func11, Tryd.ntmps11
    go_wp2_with fail
    refine (specOk_any v0 v1 sh da _ hl0 hl1 ((H0.out.keep (A.out _)).up (by simp)) ((H1.out.keep (A.out _)).up (by simp))).mono ?_
    rintro e w1 ⟨rfl, hb1⟩
    rw [HOK.out]
    obtain ⟨c10, c11⟩ := box_keep hb1 (N := w.heap.size) (v0 := v0) (v1 := v1) (by simp) (by simp [go_sem]) (by simp [go_sem])
    have B1 := hideP ((A.out _).trans (hb1.mono (by simp)))
    clear hb1
    go_wp2_with fail
    have k0 := cell_regrown c10
    have k1 := cell_regrown c11
    have c0 : ∀ d os, Calls Tryd.prog 43 #[v0] (grow (redrawn w1 d) os) fun e w'' => e = .returned (.string s0) ∧ ∃ p : Regrown, w'' = grow (redrawn w1 p.d) p.os := fun d os => Calls.regrown_of (K0.out _ (B1.out.trans ((below_regrown w1 d os).mono B1.out.size)))
    have c1 : ∀ d os, Calls Tryd.prog 43 #[v1] (grow (redrawn w1 d) os) fun e w'' => e = .returned (.string s1) ∧ ∃ p : Regrown, w'' = grow (redrawn w1 p.d) p.os := fun d os => Calls.regrown_of (K1.out _ (B1.out.trans ((below_regrown w1 d os).mono B1.out.size)))
    have n1 : ¬ 9223372036854775807 < s0.size + 1 := by omega
    have n2 : ¬ 9223372036854775807 < s0.size + 1 + s1.size := by omega
    refine wp_region_quiet_below (by kernel_rfl) (by kernel_rfl) ?_
    repeat (quiet_step (first | (go_at_call_of 43 v0; exact c0 _ _) | (go_at_call_of 43 v1; exact c1 _ _)))
    refine wpQuiet_nil ?_
    intro _ hw'
    obtain ⟨⟨dq, osq⟩, hw''⟩ := hw'
    subst hw''
    go_wp2_with fail
    refine bodyPost_ret (v := .tuple #[.string (s0 ++ ⟨#[58]⟩ ++ s1), .bool true]) (by simp [results, Tryd.results11, go_sem]) rfl ⟨by rw [HOK.out], ?_⟩
    exact B1.out.trans ((below_regrown w1 dq osq).mono B1.out.size)
  · rw [if_neg hok]
    have HOK : Hid (Pl.okB sh da = false) := by show _ = _; simpa using hok
    rw [HOK.out]
    clear hok
    go_enter Tryd.func11, Tryd.ntmps11
    go_wp2_with fail
    refine (specOk_any v0 v1 sh da _ hl0 hl1 ((H0.out.keep (A.out _)).up (by simp)) ((H1.out.keep (A.out _)).up (by simp))).mono ?_
    rintro e w1 ⟨rfl, hb1⟩
    rw [HOK.out]
    have B1 := hideP ((A.out _).trans (hb1.mono (by simp)))
    clear hb1
    go_wp2_with fail
    refine bodyPost_ret (v := .tuple #[.string ByteArray.empty, .bool false]) (by simp [results, Tryd.results11, go_sem]; rfl) rfl ⟨rfl, B1.out⟩

set_option maxRecDepth 100000 in
set_option maxHeartbeats 2000000 in
/-- impl.ArrayText -/
theorem implText_any (v0 v1 : Value) (sh da : List Int) (w : World) (hl0 : sh.length ≤ 1048576) (hl1 : da.length ≤ 1048576) (ht : Tab w) (h0 : Rd w.heap.size w v0 sh) (h1 : Rd w.heap.size w v1 da) :
    Calls Tryd.prog 13 #[.agg #[v0, v1]] w fun e w' => e = .returned (.tuple #[.string (Pl.txt sh da), .bool (Pl.okB sh da)]) ∧ Below w.heap.size w w' := by
  have H0 := hideP h0
  have HT := hideP ht
  have H1 := hideP h1
  clear h0 h1 ht
  have A : Hid (∀ o, Below w.heap.size w (w.alloc o)) := fun o => (Below.refl _ _).alloc (Nat.le_refl _) _
  unfold Pl.txt
  by_cases hok : Pl.okB sh da = true
  · obtain ⟨l0, x0⟩ := Pl.ok_sh hok
    obtain ⟨l1, x1⟩ := Pl.ok_da hok
    have l0' : sh.length ≤ 1000 := by omega
    have z0 := Pl.jn_size l0' x0
    have z1 := Pl.jn_size l1 x1
    have K0 : Hid (∀ W, Below w.heap.size w W → Calls Tryd.prog 46 #[v0] W fun e w' => e = .returned (.string ⟨(Pl.jn sh).toArray⟩) ∧ Below W.heap.size W w') := fun W hW => numbersText_rd v0 sh W l0' x0 (HT.out.keep hW) ((H0.out.keep hW).up hW.size)
    have K1 : Hid (∀ W, Below w.heap.size w W → Calls Tryd.prog 46 #[v1] W fun e w' => e = .returned (.string ⟨(Pl.jn da).toArray⟩) ∧ Below W.heap.size W w') := fun W hW => numbersText_rd v1 da W l1 x1 (HT.out.keep hW) ((H1.out.keep hW).up hW.size)
    rw [if_pos hok]
    generalize (⟨(Pl.jn sh).toArray⟩ : ByteArray) = s0 at *
    generalize (⟨(Pl.jn da).toArray⟩ : ByteArray) = s1 at *
    have HOK := hideP hok
    clear l0 x0 l1 x1 hok l0'
    go_enter Tryd.func13, Tryd.ntmps13
    go_wp2_with fail
    refine (implOk_any v0 v1 sh da _ hl0 hl1 ((H0.out.keep (A.out _)).up (by simp)) ((H1.out.keep (A.out _)).up (by simp))).mono ?_
    rintro e w1 ⟨rfl, hb1⟩
    rw [HOK.out]
    obtain ⟨c10, c11⟩ := box_keep hb1 (N := w.heap.size) (v0 := v0) (v1 := v1) (by simp) (by simp [go_sem]) (by simp [go_sem])
    have B1 := hideP ((A.out _).trans (hb1.mono (by simp)))
    clear hb1
    go_wp2_with fail
    have k0 := cell_regrown c10
    have k1 := cell_regrown c11
    have c0 : ∀ d os, Calls Tryd.prog 46 #[v0] (grow (redrawn w1 d) os) fun e w'' => e = .returned (.string s0) ∧ ∃ p : Regrown, w'' = grow (redrawn w1 p.d) p.os := fun d os => Calls.regrown_of (K0.out _ (B1.out.trans ((below_regrown w1 d os).mono B1.out.size)))
    have c1 : ∀ d os, Calls Tryd.prog 46 #[v1] (grow (redrawn w1 d) os) fun e w'' => e = .returned (.string s1) ∧ ∃ p : Regrown, w'' = grow (redrawn w1 p.d) p.os := fun d os => Calls.regrown_of (K1.out _ (B1.out.trans ((below_regrown w1 d os).mono B1.out.size)))
    have n1 : ¬ 9223372036854775807 < s0.size + 1 := by omega
    have n2 : ¬ 9223372036854775807 < s0.size + 1 + s1.size := by omega
    refine wp_region_quiet_below (by kernel_rfl) (by kernel_rfl) ?_
    repeat (quiet_step (first | (go_at_call_of 46 v0; exact c0 _ _) | (go_at_call_of 46 v1; exact c1 _ _)))
    refine wpQuiet_nil ?_
    intro _ hw'
    obtain ⟨⟨dq, osq⟩, hw''⟩ := hw'
    subst hw''
    go_wp2_with fail
    refine bodyPost_ret (v := .tuple #[.string (s0 ++ ⟨#[58]⟩ ++ s1), .bool true]) (by simp [results, Tryd.results13, go_sem]) rfl ⟨by rw [HOK.out], ?_⟩
    exact B1.out.trans ((below_regrown w1 dq osq).mono B1.out.size)
  · rw [if_neg hok]
    have HOK : Hid (Pl.okB sh da = false) := by show _ = _; simpa using hok
    rw [HOK.out]
    clear hok
    go_enter Tryd.func13, Tryd.ntmps13
    go_wp2_with fail
    refine (implOk_any v0 v1 sh da _ hl0 hl1 ((H0.out.keep (A.out _)).up (by simp)) ((H1.out.keep (A.out _)).up (by simp))).mono ?_
    rintro e w1 ⟨rfl, hb1⟩
    rw [HOK.out]
    have B1 := hideP ((A.out _).trans (hb1.mono (by simp)))
    clear hb1
    go_wp2_with fail
    refine bodyPost_ret (v := .tuple #[.string ByteArray.empty, .bool false]) (by simp [results, Tryd.results13, go_sem]; rfl) rfl ⟨rfl, B1.out⟩

end Go.Proofs.YtbmkbplgncoapaaDoor
