import Derived.Test.YtaopohihipihdaaGreatDoorLawOk
import Derived.Test.YtaopohihipihdaaGreatDoorSh
import Derived.Lib.ItoaMem
import Derived.Lib.ItoaLen
import Derived.Laws.BytesArg
import Derived.Deep.RegionHeld3
import Derived.Deep.Cut
import Derived.Lib.Join
import Derived.Laws.IdiomStrings
import Derived.Lib.AppendIntMem
import Derived.Lib.QuietBelow
namespace Go.Proofs.YtaopohihipihdaaGreatDoor
open Go.RowKit
set_option linter.unusedVariables false

namespace Pl
/-- numbers in decimal with blanks between -/
def jn (zs : List Int) : List UInt8 := Lib.join (zs.map Lib.itoa) [32]
theorem itoa_pos (x : Int) : 0 < (Lib.itoa x).length := by
  unfold Lib.itoa
  have h : ∀ u, 0 < (Lib.decDigits u).length := fun u => by
    rw [Lib.decDigits]
    split <;> simp
  split
  · simp
  · exact h _
theorem jn_nil : jn [] = [] := rfl
theorem jn_snoc0 (x : Int) : jn [x] = Lib.itoa x := by unfold jn; exact Lib.join_one _ _
theorem jn_len (l : List Int) (h : ∀ x ∈ l, -9223372036854775807 ≤ x ∧ x ≤ 9223372036854775807) : (jn l).length ≤ 22 * l.length := by
  have key : ∀ r : List Int, (∀ x ∈ r, -9223372036854775807 ≤ x ∧ x ≤ 9223372036854775807) → (Lib.joinTail [32] (r.map Lib.itoa)).length ≤ 22 * r.length := by
    intro r
    induction r with
    | nil => intro _; simp [Lib.joinTail]
    | cons y r ih =>
      intro hr
      have h1 := ih (fun x hx => hr x (List.mem_cons_of_mem _ hx))
      have h2 := hr y (List.mem_cons_self ..)
      have h3 := Lib.itoa_length_le y (by omega) (by omega)
      simp only [Lib.joinTail, List.map_cons, List.flatten_cons, List.length_append, List.length_cons, List.length_nil] at h1 ⊢
      omega
  match l, h with
  | [], _ => simp [jn_nil]
  | y :: r, h =>
    unfold jn
    rw [List.map_cons, Lib.join_cons, List.length_append]
    have h1 := key r (fun x hx => h x (List.mem_cons_of_mem _ hx))
    have h2 := h y (List.mem_cons_self ..)
    have h3 := Lib.itoa_length_le y (by omega) (by omega)
    simp only [List.length_cons]
    omega
end Pl

end Go.Proofs.YtaopohihipihdaaGreatDoor

namespace Go.Proofs.YtaopohihipihdaaGreatDoor
open Go.RowKit
set_option linter.unusedVariables false

theorem Tryz.info9 : (Tryz.prog.info? 9).map (fun i => (i.zero, i.size, i.bytes)) = some (some (.string ByteArray.empty), 1, 16) := by kernel_rfl

/-- the table that strconv reads -/
abbrev Tab (w : World) : Prop := Lib.TabIs Tryz.prog w "internal/strconv.uint64pow10" .u64 Lib.pow10Tab
theorem Tab.keep {w w' : World} (h : Tab w) (hb : Below w.heap.size w w') : Tab w' := Lib.tabBelow_of_tabIs h w' hb

/-- a number's word -/
def wrd (x : Int) : ByteArray := ⟨(Lib.itoa x).toArray⟩
/-- the first k words are there -/
def upW (zs : List Int) (k : Nat) : List ByteArray := (zs.take k).map wrd ++ List.replicate (zs.length - k) ByteArray.empty
theorem upW_zero (zs : List Int) : upW zs 0 = List.replicate zs.length ByteArray.empty := by simp [upW]
theorem upW_all (zs : List Int) (k : Nat) (h : zs.length ≤ k) : upW zs k = zs.map wrd := by
  simp [upW, List.take_of_length_le h, Nat.sub_eq_zero_of_le h]
theorem upW_step (zs : List Int) (k : Nat) (h : k < zs.length) : (upW zs k).set k (wrd (zs.getD k 0)) = upW zs (k + 1) := by
  unfold upW
  rw [Pl.take_snoc zs k h, List.set_append_right k _ (by simp; omega)]
  have e : zs.length - k = (zs.length - (k + 1)) + 1 := by omega
  have e2 : k - ((zs.take k).map wrd).length = 0 := by simp; omega
  rw [e2, e, List.replicate_succ]
  simp
theorem made_words (n : Nat) : (madeCells #[Value.string ByteArray.empty] n).toList = (List.replicate n ByteArray.empty).map Value.string := by
  rw [toList_madeCells_one]; simp

theorem jn_words (zs : List Int) : (zs.map wrd).map (·.data.toList) = zs.map Lib.itoa := by
  rw [List.map_map]
  congr 1

/-- strconv.Itoa -/
theorem itoa_any (x : Int) (w : World) (h0 : -9223372036854775808 ≤ x) (h1 : x ≤ 9223372036854775807) (ht : Tab w) :
    Calls Tryz.prog 33 #[.int .i64 x] w fun e w' => e = .returned (.string (wrd x)) ∧ Below w.heap.size w w' := by
  refine (Tryz.strconv_Itoa x h0 h1 w ht).mono ?_
  rintro e w' ⟨rfl, k, os, rfl⟩
  exact ⟨rfl, Lib.below_grow _ _ (Nat.le_refl _) _ _⟩

/-- strings.Join of numbers' words -/
theorem join_words (bk cap : Nat) (zs : List Int) (w : World) (hl : zs.length ≤ 1000) (hv : ∀ x ∈ zs, -9223372036854775807 ≤ x ∧ x ≤ 9223372036854775807) (hbk : bk < w.heap.size) (hcap : zs.length ≤ cap)
    (hc : ∀ (j : Nat) x, (zs.map wrd)[j]? = some x → w.cell? ⟨bk, j, none⟩ = some (.string x)) :
    Calls Tryz.prog 34 #[.slice (some ⟨bk, 0, none⟩) zs.length cap, .string ⟨#[32]⟩] w fun e w' => e = .returned (.string ⟨(Pl.jn zs).toArray⟩) ∧ Below w.heap.size w w' := by
  have hj := Pl.jn_len zs hv
  have := Tryz.strings_Join bk 0 cap (zs.map wrd) ⟨#[32]⟩ w (fun j x h => by rw [Nat.zero_add]; exact hc j x h) hbk (by rw [List.length_map]; omega) (by rw [List.length_map]; exact hcap)
    (by rw [jn_words]; show (Pl.jn zs).length ≤ _; omega)
  rw [List.length_map, jn_words] at this
  exact this

set_option maxRecDepth 100000 in
set_option maxHeartbeats 2000000 in
/-- impl.numbersText -/
theorem numbersText_core (b off cap : Nat) (zs : List Int) (w : World) (hl : zs.length ≤ 1000) (hv : ∀ x ∈ zs, -9223372036854775807 ≤ x ∧ x ≤ 9223372036854775807) (ht : Tab w) (hb : b < w.heap.size)
    (hc : ∀ i, i < zs.length → w.cell? ⟨b, off + i, none⟩ = some (.int .i64 (zs.getD i 0))) :
    Calls Tryz.prog 15 #[.slice (some ⟨b, off, none⟩) zs.length cap] w fun e w' => e = .returned (.string ⟨(Pl.jn zs).toArray⟩) ∧ Below w.heap.size w w' := by
  obtain ⟨i0, hi, hz0, hz1, hz2⟩ := info_parts Tryz.info9
  have HT := hideP ht
  have HC := hideP hc
  have HV := hideP hv
  have HL := hideP hl
  have HJ := hideP (fun bk cap w => join_words bk cap zs w hl hv)
  clear ht hc hv
  generalize hn : zs.length = n at *
  have Hn : Hid (zs.length = n) := hn
  clear hn
  go_enter Tryz.func15, Tryz.ntmps15
  go_wp2_with (at_make; refine wpList_make_full _ rfl _ _ 59 rfl w.heap.size 9 i0 (.string ByteArray.empty) 1 Tryz.underlying59 hi hz0 hz1 _ _ _ _ n rfl rfl rfl rfl ?b2 ?b3 ?b4 ?_)
  case b2 => rw [hz2]; omega
  case b3 => unfold maxLen; omega
  case b4 => exact Nat.le_refl _
  intro w1 hown hgrow
  rw [made_words] at hown
  have hbel : Below w.heap.size w w1 := (Below.refl _ _).grown hgrow (Nat.le_refl _) (by intro k h; cases h)
  clear hgrow hi hz0 hz1 hz2
  go_wp2_with fail
  go_loopw [11] (fun i wr => ∃ k : Nat, k ≤ n ∧ i = .int .i64 k ∧ Hid (wr.ownsRow w.heap.size 9 1 (.slice (some ⟨w.heap.size, 0, none⟩) n n) n ((upW zs k).map Value.string)) ∧ Hid (Below w.heap.size w wr)) (fun i _ => n - (intOf i).toNat)
  case atStart => exact ⟨0, Nat.zero_le _, rfl, by show World.ownsRow _ _ _ _ _ _ _; rw [upW_zero, Hn.out]; exact hown, hbel⟩
  case round =>
    clear hown hbel
    obtain ⟨k, hk, rfl, hown, hbel⟩ := hrel
    by_cases hlt : k < n
    · have hlt' : (k : Int) < (n : Int) := by omega
      have hck : wr.cell? ⟨b, off + k, none⟩ = some (.int .i64 (zs.getD k 0)) := (hbel.out.cell (p := ⟨b, off + k, none⟩) hb).trans (HC.out k hlt)
      have hmem : zs.getD k 0 ∈ zs := by have h := Hn.out; have : k < zs.length := by rw [h]; exact hlt
                                         simp [List.getD, this]
      have hvx := HV.out _ hmem
      have US : Hid ((upW zs k).set k (wrd (zs.getD k 0)) = upW zs (k + 1)) := upW_step zs k (by rw [Hn.out]; exact hlt)
      have hlen : Hid (k < (upW zs k).length) := by show _ < _; simp [upW]; have := Hn.out; omega
      clear hmem
      generalize zs.getD k 0 = x at *
      have KI := hideP (fun w => itoa_any x w (by omega) (by omega))
      clear hvx
      go_wp2_with fail
      refine (KI.out _ (HT.out.keep hbel.out)).mono ?_
      rintro e w3 ⟨rfl, hb3⟩
      have O3 := hideP (owns_keep hown.out hb3)
      have B3 := hideP (hbel.out.trans (hb3.mono hbel.out.size))
      have hfz := O3.out.frozenAt k
      have hcg : ∃ u, w3.cell? ⟨w.heap.size, k, none⟩ = some (.string u) := by
        rw [O3.out.cellAt k (by omega)]
        exact ⟨(upW zs k)[k]'hlen.out, by simp [hlen.out]⟩
      obtain ⟨u, hcg⟩ := hcg
      have R : Hid ((w3.setCell ⟨w.heap.size, k, none⟩ (.string (wrd x))).ownsRow w.heap.size 9 1 (.slice (some ⟨w.heap.size, 0, none⟩) n n) n ((upW zs (k + 1)).map Value.string)) := by
        show World.ownsRow _ _ _ _ _ _ _
        rw [← US.out, List.map_set]
        exact (O3.out.stored k (.string (wrd x))).1
      have R2 : Hid (Below w.heap.size w (w3.setCell ⟨w.heap.size, k, none⟩ (.string (wrd x)))) := B3.out.setCell (Nat.le_refl _) _
      clear hb3
      generalize wrd x = sx at *
      go_wp2_with fail
      go_roundw
      case rel => exact ⟨k + 1, by omega, by go_num, R, R2⟩
      case measure => simp [intOf]; omega
    · have hlt' : ¬ ((k : Int) < (n : Int)) := by omega
      have O : Hid (wr.ownsRow w.heap.size 9 1 (.slice (some ⟨w.heap.size, 0, none⟩) n n) n ((zs.map wrd).map Value.string)) := by
        have h := hown.out
        rw [upW_all zs k (by rw [Hn.out]; omega)] at h
        exact h
      go_wp2_with fail
      have hj := HJ.out w.heap.size n wr
      refine (hj (O.out.lt _ rfl).2 (Nat.le_refl _) (fun j x hx => ?_)).mono ?_
      · rw [O.out.cellAt j (by have := (List.getElem?_eq_some_iff.1 hx).1; rw [List.length_map, Hn.out] at this; omega), List.getElem?_map, hx]
        rfl
      rintro e w4 ⟨rfl, hb4⟩
      have B4 := hideP (hbel.out.trans (hb4.mono hbel.out.size))
      clear hb4
      go_wp2_with fail
      go_ret
      exact ⟨rfl, B4.out⟩

end Go.Proofs.YtaopohihipihdaaGreatDoor

namespace Go.Proofs.YtaopohihipihdaaGreatDoor
open Go.RowKit Go.Sort
set_option linter.unusedVariables false

theorem box_keep {W w1 : World} {N : Nat} {v0 v1 : Value} (hb : Below W.heap.size W w1) (hN : N < W.heap.size) (c0 : W.cell? ⟨N, 0, none⟩ = some v0) (c1 : W.cell? ⟨N, 1, none⟩ = some v1) :
    w1.cell? ⟨N, 0, none⟩ = some v0 ∧ w1.cell? ⟨N, 1, none⟩ = some v1 :=
  ⟨(hb.cell (p := ⟨N, 0, none⟩) hN).trans c0, (hb.cell (p := ⟨N, 1, none⟩) hN).trans c1⟩

namespace Pl
/-- an array's text -/
def txt (sh da : List Int) : ByteArray := if okB sh da then ⟨(jn sh).toArray⟩ ++ ⟨#[58]⟩ ++ ⟨(jn da).toArray⟩ else ByteArray.empty
theorem ok_sh {sh da : List Int} (h : okB sh da = true) : sh.length ≤ 3 ∧ ∀ x ∈ sh, -9223372036854775807 ≤ x ∧ x ≤ 9223372036854775807 := by
  simp only [okB, fitsB, baseB, Bool.and_eq_true, decide_eq_true_eq, List.all_eq_true] at h
  refine ⟨h.1.1.1.1, fun x hx => ?_⟩
  have := inR_bd (h.1.1.1.2 x hx)
  omega
theorem ok_da {sh da : List Int} (h : okB sh da = true) : da.length ≤ 1000 ∧ ∀ x ∈ da, -9223372036854775807 ≤ x ∧ x ≤ 9223372036854775807 := by
  simp only [okB, fitsB, Bool.and_eq_true, decide_eq_true_eq, List.all_eq_true] at h
  refine ⟨by have := h.1.1.2; have := h.1.2; omega, fun x hx => ?_⟩
  have := h.2 x hx
  simp only [valB, decide_eq_true_eq] at this
  omega
theorem jn_size {zs : List Int} (hl : zs.length ≤ 1000) (hv : ∀ x ∈ zs, -9223372036854775807 ≤ x ∧ x ≤ 9223372036854775807) : (⟨(jn zs).toArray⟩ : ByteArray).size ≤ 22000 := by
  have := jn_len zs hv
  show (jn zs).toArray.size ≤ _
  rw [List.size_toArray]
  omega
end Pl

set_option maxRecDepth 100000 in
set_option maxHeartbeats 2000000 in
theorem numbersText_nil (ao : Option Addr) (cap : Nat) (w : World) : Calls Tryz.prog 15 #[.slice ao 0 cap] w fun e w' => e = .returned (.string ⟨(Pl.jn []).toArray⟩) ∧ Below w.heap.size w w' := by
  obtain ⟨i0, hi, hz0, hz1, hz2⟩ := info_parts Tryz.info9
  go_enter Tryz.func15, Tryz.ntmps15
  go_wp2_with (at_make; refine wpList_make_full _ rfl _ _ 59 rfl w.heap.size 9 i0 (.string ByteArray.empty) 1 Tryz.underlying59 hi hz0 hz1 _ _ _ _ 0 rfl rfl rfl rfl ?b2 ?b3 ?b4 ?_)
  case b2 => rw [hz2]; omega
  case b3 => unfold maxLen; omega
  case b4 => exact Nat.le_refl _
  intro w1 hown hgrow
  have hbel := hideP ((Below.refl _ _).grown hgrow (Nat.le_refl _) (by intro k h; cases h))
  clear hgrow hi hz0 hz1 hz2 hown
  go_wp2_with fail
  go_loopw [11] (fun i wr => i = .int .i64 0 ∧ wr = w1) (fun _ _ => 0)
  case atStart => exact ⟨rfl, rfl⟩
  case round =>
    obtain ⟨rfl, rfl⟩ := hrel
    go_wp2_with fail
    refine (Tryz.strings_Join_none _ _ _ _).mono ?_
    rintro e w4 ⟨rfl, rfl⟩
    go_wp2_with fail
    go_ret
    exact ⟨rfl, hbel.out⟩

theorem numbersText_rd (v : Value) (zs : List Int) (w : World) (hl : zs.length ≤ 1000) (hv : ∀ x ∈ zs, -9223372036854775807 ≤ x ∧ x ≤ 9223372036854775807) (ht : Tab w) (h : Rd w.heap.size w v zs) :
    Calls Tryz.prog 15 #[v] w fun e w' => e = .returned (.string ⟨(Pl.jn zs).toArray⟩) ∧ Below w.heap.size w w' := by
  obtain ⟨ao, cap, rfl, h⟩ := h
  rcases h with h | ⟨b, off, hb, rfl, hc⟩
  · obtain rfl := List.length_eq_zero_iff.1 h
    exact numbersText_nil ao cap w
  · exact numbersText_core b off cap zs w hl hv ht hb hc

set_option maxRecDepth 100000 in
set_option maxHeartbeats 2000000 in
/-- impl.ArrayText -/
theorem implText_any (v0 v1 : Value) (sh da : List Int) (w : World) (hl0 : sh.length ≤ 1048576) (hl1 : da.length ≤ 1048576) (ht : Tab w) (h0 : Rd w.heap.size w v0 sh) (h1 : Rd w.heap.size w v1 da) :
    Calls Tryz.prog 5 #[.agg #[v0, v1]] w fun e w' => e = .returned (.tuple #[.string (Pl.txt sh da), .bool (Pl.okB sh da)]) ∧ Below w.heap.size w w' := by
  have H0 := hideP h0
  have HT := hideP ht
  have H1 := hideP h1
  clear h0 h1 ht
  have A : Hid (∀ o, Below w.heap.size w (w.alloc o)) := fun o => (Below.refl _ _).alloc (Nat.le_refl _) _
  unfold Pl.txt
  by_cases hok : Pl.okB sh da = true
  · obtain ⟨l0, x0⟩ := Pl.ok_sh hok
    obtain ⟨l1, x1⟩ := Pl.ok_da hok
    have l0' : sh.length ≤ 1000 := by omega
    have z0 := Pl.jn_size l0' x0
    have z1 := Pl.jn_size l1 x1
    have K0 : Hid (∀ W, Below w.heap.size w W → Calls Tryz.prog 15 #[v0] W fun e w' => e = .returned (.string ⟨(Pl.jn sh).toArray⟩) ∧ Below W.heap.size W w') := fun W hW => numbersText_rd v0 sh W l0' x0 (HT.out.keep hW) ((H0.out.keep hW).up hW.size)
    have K1 : Hid (∀ W, Below w.heap.size w W → Calls Tryz.prog 15 #[v1] W fun e w' => e = .returned (.string ⟨(Pl.jn da).toArray⟩) ∧ Below W.heap.size W w') := fun W hW => numbersText_rd v1 da W l1 x1 (HT.out.keep hW) ((H1.out.keep hW).up hW.size)
    rw [if_pos hok]
    generalize (⟨(Pl.jn sh).toArray⟩ : ByteArray) = s0 at *
    generalize (⟨(Pl.jn da).toArray⟩ : ByteArray) = s1 at *
    have HOK := hideP hok
    clear l0 x0 l1 x1 hok l0'
    go_enter Tryz.func5, Tryz.ntmps5
    go_wp2_with fail
    refine (implOk_any v0 v1 sh da _ hl0 hl1 ((H0.out.keep (A.out _)).up (by simp)) ((H1.out.keep (A.out _)).up (by simp))).mono ?_
    rintro e w1 ⟨rfl, hb1⟩
    rw [HOK.out]
    obtain ⟨c10, c11⟩ := box_keep hb1 (N := w.heap.size) (v0 := v0) (v1 := v1) (by simp) (by simp [go_sem]) (by simp [go_sem])
    have B1 := hideP ((A.out _).trans (hb1.mono (by simp)))
    clear hb1
    go_wp2_with fail
    have k0 := cell_regrown c10
    have k1 := cell_regrown c11
    have c0 : ∀ d os, Calls Tryz.prog 15 #[v0] (grow (redrawn w1 d) os) fun e w'' => e = .returned (.string s0) ∧ ∃ p : Regrown, w'' = grow (redrawn w1 p.d) p.os := fun d os => Calls.regrown_of (K0.out _ (B1.out.trans ((below_regrown w1 d os).mono B1.out.size)))
    have c1 : ∀ d os, Calls Tryz.prog 15 #[v1] (grow (redrawn w1 d) os) fun e w'' => e = .returned (.string s1) ∧ ∃ p : Regrown, w'' = grow (redrawn w1 p.d) p.os := fun d os => Calls.regrown_of (K1.out _ (B1.out.trans ((below_regrown w1 d os).mono B1.out.size)))
    have n1 : ¬ 9223372036854775807 < s0.size + 1 := by omega
    have n2 : ¬ 9223372036854775807 < s0.size + 1 + s1.size := by omega
    refine wp_region_quiet_below (by kernel_rfl) (by kernel_rfl) ?_
    repeat (quiet_step (first | (go_at_call_of 15 v0; exact c0 _ _) | (go_at_call_of 15 v1; exact c1 _ _)))
    refine wpQuiet_nil ?_
    intro _ hw'
    obtain ⟨⟨dq, osq⟩, hw''⟩ := hw'
    subst hw''
    go_wp2_with fail
    refine bodyPost_ret (v := .tuple #[.string (s0 ++ ⟨#[58]⟩ ++ s1), .bool true]) (by simp [results, Tryz.results5, go_sem]) rfl ⟨by rw [HOK.out], ?_⟩
    exact B1.out.trans ((below_regrown w1 dq osq).mono B1.out.size)
  · rw [if_neg hok]
    have HOK : Hid (Pl.okB sh da = false) := by show _ = _; simpa using hok
    rw [HOK.out]
    clear hok
    go_enter Tryz.func5, Tryz.ntmps5
    go_wp2_with fail
    refine (implOk_any v0 v1 sh da _ hl0 hl1 ((H0.out.keep (A.out _)).up (by simp)) ((H1.out.keep (A.out _)).up (by simp))).mono ?_
    rintro e w1 ⟨rfl, hb1⟩
    rw [HOK.out]
    have B1 := hideP ((A.out _).trans (hb1.mono (by simp)))
    clear hb1
    go_wp2_with fail
    refine bodyPost_ret (v := .tuple #[.string ByteArray.empty, .bool false]) (by simp [results, Tryz.results5, go_sem]; rfl) rfl ⟨rfl, B1.out⟩

end Go.Proofs.YtaopohihipihdaaGreatDoor
