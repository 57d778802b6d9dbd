import Derived.Test.YtbmkbplgncoapaaDoorJn
import Derived.Lib.AppendIntMem
namespace Go.Proofs.YtbmkbplgncoapaaDoor
open Go.RowKit
set_option linter.unusedVariables false

theorem Tryd.info9 : (Tryd.prog.info? 9).map (fun i => (i.zero, i.size, i.bytes)) = some (some (.string ByteArray.empty), 1, 16) := by kernel_rfl

/-- the table that strconv reads -/
abbrev Tab (w : World) : Prop := Lib.TabIs Tryd.prog w "internal/strconv.uint64pow10" .u64 Lib.pow10Tab
theorem Tab.keep {w w' : World} (h : Tab w) (hb : Below w.heap.size w w') : Tab w' := Lib.tabBelow_of_tabIs h w' hb

/-- a number's word -/
def wrd (x : Int) : ByteArray := ⟨(Lib.itoa x).toArray⟩
/-- the first k words are there -/
def upW (zs : List Int) (k : Nat) : List ByteArray := (zs.take k).map wrd ++ List.replicate (zs.length - k) ByteArray.empty
theorem upW_zero (zs : List Int) : upW zs 0 = List.replicate zs.length ByteArray.empty := by simp [upW]
theorem upW_all (zs : List Int) (k : Nat) (h : zs.length ≤ k) : upW zs k = zs.map wrd := by
  simp [upW, List.take_of_length_le h, Nat.sub_eq_zero_of_le h]
theorem upW_step (zs : List Int) (k : Nat) (h : k < zs.length) : (upW zs k).set k (wrd (zs.getD k 0)) = upW zs (k + 1) := by
  unfold upW
  rw [Pl.take_snoc zs k h, List.set_append_right k _ (by simp; omega)]
  have e : zs.length - k = (zs.length - (k + 1)) + 1 := by omega
  have e2 : k - ((zs.take k).map wrd).length = 0 := by simp; omega
  rw [e2, e, List.replicate_succ]
  simp
theorem made_words (n : Nat) : (madeCells #[Value.string ByteArray.empty] n).toList = (List.replicate n ByteArray.empty).map Value.string := by
  rw [toList_madeCells_one]; simp

theorem jn_words (zs : List Int) : (zs.map wrd).map (·.data.toList) = zs.map Lib.itoa := by
  rw [List.map_map]
  congr 1

/-- strconv.Itoa -/
theorem itoa_any (x : Int) (w : World) (h0 : -9223372036854775808 ≤ x) (h1 : x ≤ 9223372036854775807) (ht : Tab w) :
    Calls Tryd.prog 63 #[.int .i64 x] w fun e w' => e = .returned (.string (wrd x)) ∧ Below w.heap.size w w' := by
  refine (Tryd.strconv_Itoa x h0 h1 w ht).mono ?_
  rintro e w' ⟨rfl, k, os, rfl⟩
  exact ⟨rfl, Lib.below_grow _ _ (Nat.le_refl _) _ _⟩

/-- strings.Join of numbers' words -/
theorem join_words (bk cap : Nat) (zs : List Int) (w : World) (hl : zs.length ≤ 1000) (hv : ∀ x ∈ zs, -9223372036854775807 ≤ x ∧ x ≤ 9223372036854775807) (hbk : bk < w.heap.size) (hcap : zs.length ≤ cap)
    (hc : ∀ (j : Nat) x, (zs.map wrd)[j]? = some x → w.cell? ⟨bk, j, none⟩ = some (.string x)) :
    Calls Tryd.prog 90 #[.slice (some ⟨bk, 0, none⟩) zs.length cap, .string ⟨#[32]⟩] w fun e w' => e = .returned (.string ⟨(Pl.jn zs).toArray⟩) ∧ Below w.heap.size w w' := by
  have hj := Pl.jn_len zs hv
  have := Tryd.strings_Join bk 0 cap (zs.map wrd) ⟨#[32]⟩ w (fun j x h => by rw [Nat.zero_add]; exact hc j x h) hbk (by rw [List.length_map]; omega) (by rw [List.length_map]; exact hcap)
    (by rw [jn_words]; show (Pl.jn zs).length ≤ _; omega)
  rw [List.length_map, jn_words] at this
  exact this

set_option maxRecDepth 100000 in
set_option maxHeartbeats 2000000 in
/-- impl.numbersText -/
theorem numbersText_core (b off cap : Nat) (zs : List Int) (w : World) (hl : zs.length ≤ 1000) (hv : ∀ x ∈ zs, -9223372036854775807 ≤ x ∧ x ≤ 9223372036854775807) (ht : Tab w) (hb : b < w.heap.size)
    (hc : ∀ i, i < zs.length → w.cell? ⟨b, off + i, none⟩ = some (.int .i64 (zs.getD i 0))) :
    Calls Tryd.prog 46 #[.slice (some ⟨b, off, none⟩) zs.length cap] w fun e w' => e = .returned (.string ⟨(Pl.jn zs).toArray⟩) ∧ Below w.heap.size w w' := by
  obtain ⟨i0, hi, hz0, hz1, hz2⟩ := info_parts Tryd.info9
  have HT := hideP ht
  have HC := hideP hc
  have HV := hideP hv
  have HL := hideP hl
  have HJ := hideP (fun bk cap w => join_words bk cap zs w hl hv)
  clear ht hc hv
  generalize hn : zs.length = n at *
  have Hn : Hid (zs.length = n) := hn
  clear hn
  go_enter Tryd.func46, Tryd.ntmps46
  go_wp2_with (at_make; refine wpList_make_full _ rfl _ _ 68 rfl w.heap.size 9 i0 (.string ByteArray.empty) 1 Tryd.underlying68 hi hz0 hz1 _ _ _ _ n rfl rfl rfl rfl ?b2 ?b3 ?b4 ?_)
  case b2 => rw [hz2]; omega
  case b3 => unfold maxLen; omega
  case b4 => exact Nat.le_refl _
  intro w1 hown hgrow
  rw [made_words] at hown
  have hbel : Below w.heap.size w w1 := (Below.refl _ _).grown hgrow (Nat.le_refl _) (by intro k h; cases h)
  clear hgrow hi hz0 hz1 hz2
  go_wp2_with fail
  go_loopw [11] (fun i wr => ∃ k : Nat, k ≤ n ∧ i = .int .i64 k ∧ Hid (wr.ownsRow w.heap.size 9 1 (.slice (some ⟨w.heap.size, 0, none⟩) n n) n ((upW zs k).map Value.string)) ∧ Hid (Below w.heap.size w wr)) (fun i _ => n - (intOf i).toNat)
  case atStart => exact ⟨0, Nat.zero_le _, rfl, by show World.ownsRow _ _ _ _ _ _ _; rw [upW_zero, Hn.out]; exact hown, hbel⟩
  case round =>
    clear hown hbel
    obtain ⟨k, hk, rfl, hown, hbel⟩ := hrel
    by_cases hlt : k < n
    · have hlt' : (k : Int) < (n : Int) := by omega
      have hck : wr.cell? ⟨b, off + k, none⟩ = some (.int .i64 (zs.getD k 0)) := (hbel.out.cell (p := ⟨b, off + k, none⟩) hb).trans (HC.out k hlt)
      have hmem : zs.getD k 0 ∈ zs := by have h := Hn.out; have : k < zs.length := by rw [h]; exact hlt
                                         simp [List.getD, this]
      have hvx := HV.out _ hmem
      have US : Hid ((upW zs k).set k (wrd (zs.getD k 0)) = upW zs (k + 1)) := upW_step zs k (by rw [Hn.out]; exact hlt)
      have hlen : Hid (k < (upW zs k).length) := by show _ < _; simp [upW]; have := Hn.out; omega
      clear hmem
      generalize zs.getD k 0 = x at *
      have KI := hideP (fun w => itoa_any x w (by omega) (by omega))
      clear hvx
      go_wp2_with fail
      refine (KI.out _ (HT.out.keep hbel.out)).mono ?_
      rintro e w3 ⟨rfl, hb3⟩
      have O3 := hideP (owns_keep hown.out hb3)
      have B3 := hideP (hbel.out.trans (hb3.mono hbel.out.size))
      have hfz := O3.out.frozenAt k
      have hcg : ∃ u, w3.cell? ⟨w.heap.size, k, none⟩ = some (.string u) := by
        rw [O3.out.cellAt k (by omega)]
        exact ⟨(upW zs k)[k]'hlen.out, by simp [hlen.out]⟩
      obtain ⟨u, hcg⟩ := hcg
      have R : Hid ((w3.setCell ⟨w.heap.size, k, none⟩ (.string (wrd x))).ownsRow w.heap.size 9 1 (.slice (some ⟨w.heap.size, 0, none⟩) n n) n ((upW zs (k + 1)).map Value.string)) := by
        show World.ownsRow _ _ _ _ _ _ _
        rw [← US.out, List.map_set]
        exact (O3.out.stored k (.string (wrd x))).1
      have R2 : Hid (Below w.heap.size w (w3.setCell ⟨w.heap.size, k, none⟩ (.string (wrd x)))) := B3.out.setCell (Nat.le_refl _) _
      clear hb3
      generalize wrd x = sx at *
      go_wp2_with fail
      go_roundw
      case rel => exact ⟨k + 1, by omega, by go_num, R, R2⟩
      case measure => simp [intOf]; omega
    · have hlt' : ¬ ((k : Int) < (n : Int)) := by omega
      have O : Hid (wr.ownsRow w.heap.size 9 1 (.slice (some ⟨w.heap.size, 0, none⟩) n n) n ((zs.map wrd).map Value.string)) := by
        have h := hown.out
        rw [upW_all zs k (by rw [Hn.out]; omega)] at h
        exact h
      go_wp2_with fail
      have hj := HJ.out w.heap.size n wr
      refine (hj (O.out.lt _ rfl).2 (Nat.le_refl _) (fun j x hx => ?_)).mono ?_
      · rw [O.out.cellAt j (by have := (List.getElem?_eq_some_iff.1 hx).1; rw [List.length_map, Hn.out] at this; omega), List.getElem?_map, hx]
        rfl
      rintro e w4 ⟨rfl, hb4⟩
      have B4 := hideP (hbel.out.trans (hb4.mono hbel.out.size))
      clear hb4
      go_wp2_with fail
      go_ret
      exact ⟨rfl, B4.out⟩

end Go.Proofs.YtbmkbplgncoapaaDoor
