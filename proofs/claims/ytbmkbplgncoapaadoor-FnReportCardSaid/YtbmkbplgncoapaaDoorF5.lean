import Derived.Test.YtbmkbplgncoapaaDoorF4
namespace Go.Proofs.YtbmkbplgncoapaaDoor
open Go.RowKit
set_option linter.unusedVariables false

theorem RdB.up {B B' n : Nat} {w : World} {ao : Option Addr} (h : RdB B w ao n) (hb : B ≤ B') : RdB B' w ao n := by
  rcases h with h | ⟨b, off, hB, rfl, hc⟩
  · exact .inl h
  · exact .inr ⟨b, off, by omega, rfl, hc⟩

theorem rep_yes {id : ByteArray} {vs : List Pl.Vt} (h : (Pl.idB id && Pl.vsB vs) = true) : Pl.rep id vs = ⟨(Pl.repL id.data.toList vs).toArray⟩ := by unfold Pl.rep; rw [if_pos h]
theorem rep_acc {id : ByteArray} {vs : List Pl.Vt} (h : (Pl.idB id && Pl.vsB vs) = true) : Pl.Acc (bl (Pl.rep id vs)) id vs := by
  have e := rep_yes h
  rw [Bool.and_eq_true] at h
  exact ⟨h.1, h.2, by rw [e]⟩
/-- a report reads as what it was written from -/
theorem rep_read {id : ByteArray} {vs : List Pl.Vt} (h : (Pl.idB id && Pl.vsB vs) = true) : Pl.rId (bl (Pl.rep id vs)) = id ∧ Pl.rVs (bl (Pl.rep id vs)) = vs ∧ Pl.rOk (bl (Pl.rep id vs)) = true := by
  have := Pl.rdR_yes (rep_acc h)
  unfold Pl.rId Pl.rVs Pl.rOk
  rw [this]
  exact ⟨rfl, rfl, rfl⟩
/-- what stands behind the id -/
def restL (vs : List Pl.Vt) : List UInt8 := 10 :: (Pl.lnsK vs vs.length ++ Pl.footL (Pl.passK vs vs.length) vs.length)
theorem rep_bl {id : ByteArray} {vs : List Pl.Vt} (h : (Pl.idB id && Pl.vsB vs) = true) : bl (Pl.rep id vs) = (Pl.stu ++ bl id) ++ restL vs := by
  rw [rep_yes h]
  show Pl.repL id.data.toList vs = _
  unfold Pl.repL Pl.headL restL Pl.stu
  simp
theorem rep_behind {id : ByteArray} {vs : List Pl.Vt} (h : (Pl.idB id && Pl.vsB vs) = true) : bl ((Pl.rep id vs).extract (8 + id.size) (Pl.rep id vs).size) = restL vs ∧ 8 + id.size < (Pl.rep id vs).size := by
  have hl : (Pl.stu ++ bl id).length = 8 + id.size := by rw [List.length_append, bl_len]; rfl
  constructor
  · rw [bl_drop, rep_bl h, ← hl, List.drop_left]
  · rw [← bl_len (Pl.rep id vs), rep_bl h, List.length_append, hl]
    unfold restL
    simp
theorem idx_ok : Pl.idB ⟨#[120]⟩ = true := by decide

set_option maxRecDepth 100000 in
set_option maxHeartbeats 8000000 in
/-- laws.FnReport -/
theorem lawFn (ao : Option Addr) (n cap : Nat) (w : World) (hcap : n ≤ cap) (hm : cap ≤ 9223372036854775807) (ht : Tab w) (hev : Ev w) (hk : Kw w) (h : RdB w.heap.size w ao n) :
    Calls Tryd.prog 9 #[.slice ao n cap] w fun e w' => e = .returned (.bool true) ∧ Below w.heap.size w w' := by
  have B0 := hideP (Below.refl w.heap.size w)
  have HT := hideP ht
  have HE := hideP hev
  have HK := hideP hk
  have HD := hideP h
  clear ht hev hk h
  by_cases hlong : 1048576 < n
  · have hlong' : (1048576 : Int) < (n : Int) := by omega
    go_enter Tryd.func9, Tryd.ntmps9
    go_wp2_with fail
    go_ret
    exact ⟨rfl, B0.out⟩
  have hlong' : ¬ (1048576 : Int) < (n : Int) := by omega
  have hn : n ≤ 1048576 := by omega
  have K0 := hideP (drawRead_any ao n cap w hn hcap hm HD.out)
  clear hlong
  go_enter Tryd.func9, Tryd.ntmps9
  go_wp2_with fail
  refine K0.out.mono ?_
  rintro e w1 ⟨t, rfl, hts, hb1⟩
  have B1 := hideP hb1
  clear hb1 K0
  have K1 := hideP (fun W => specRead_any t W hts)
  have K2 := hideP (fun W hb1 hb2 => implRead_any t W hts hb1 hb2)
  generalize Pl.rOk (bl t) = q1 at *
  go_wp2_with fail
  refine (K1.out _).mono ?_
  rintro e w2 ⟨hb2, v2, rfl, _⟩
  have B2 := hideP (B1.out.trans (hb2.mono B1.out.size))
  clear hb2 B1 K1
  go_wp2_with fail
  refine (K2.out _ (HE.out.keep B2.out) (HK.out.keep B2.out)).mono ?_
  rintro e w3 ⟨hb3, v3, rfl, _⟩
  have B3 := hideP (B2.out.trans (hb3.mono B2.out.size))
  clear hb3 B2 K2
  have K3 := hideP (drawReport_any ao n cap w3 hn hcap hm ((HD.out.keep B3.out).up B3.out.size))
  generalize Pl.rOk (bl t) = q1
  generalize Pl.rId (bl t) = i1
  go_wp2_with fail
  refine K3.out.mono ?_
  rintro e w4 ⟨id, v, vs, rfl, hid, hl, hrd, hb4⟩
  have B4 := hideP (B3.out.trans (hb4.mono B3.out.size))
  have R4 := hideP hrd
  clear hb4 B3 K3 hrd
  go_wp2_with fail
  refine (specReport_any id v vs _ (by omega) (by omega) R4.out).mono ?_
  rintro e w5 ⟨rfl, hb5⟩
  have B5 := hideP (B4.out.trans (hb5.mono B4.out.size))
  have R5 := hideP ((R4.out.keep hb5).up hb5.size)
  clear hb5 B4 R4
  go_wp2_with fail
  refine (implReport_any id v vs _ (by omega) (by omega) (HT.out.keep B5.out) (HK.out.keep B5.out) R5.out).mono ?_
  rintro e w6 ⟨rfl, hb6⟩
  have B6 := hideP (B5.out.trans (hb6.mono B5.out.size))
  have R6 := hideP ((R5.out.keep hb6).up hb6.size)
  clear hb6 B5 R5
  cases hok : (Pl.idB id && Pl.vsB vs) with
  | false =>
    have HN := hideP (rep_no hok)
    rw [HN.out]
    clear hok
    go_wp2_with fail
    go_ret
    exact ⟨rfl, B6.out⟩
  | true =>
    have hvs : Pl.vsB vs = true := by rw [Bool.and_eq_true] at hok; exact hok.2
    have hokx : (Pl.idB ⟨#[120]⟩ && Pl.vsB vs) = true := by rw [idx_ok, hvs]; rfl
    have K7 : Hid (∀ W, Ev W → Kw W → Calls Tryd.prog 25 #[.string (Pl.rep id vs)] W fun e w' => Below W.heap.size W w' ∧ ∃ v, e = .returned (.tuple #[.string id, v, .bool true]) ∧ OwX W.heap.size w' v vs) := fun W h1 h2 => by
      have := implRead_any (Pl.rep id vs) W (by have := rep_size id vs; omega) h1 h2
      obtain ⟨e1, e2, e3⟩ := rep_read hok
      unfold RrPost at this
      rw [e1, e2, e3] at this
      exact this
    have K8 : Hid (∀ W, Tab W → Kw W → RdV W.heap.size W v vs → Calls Tryd.prog 22 #[.string ⟨#[120]⟩, v] W fun e w' => e = .returned (.tuple #[.string (Pl.rep ⟨#[120]⟩ vs), .bool true]) ∧ Below W.heap.size W w') := fun W h1 h2 h3 => by
      have := implReport_any ⟨#[120]⟩ v vs W (by decide) (by omega) h1 h2 h3
      rw [hokx] at this
      exact this
    have K9 : Hid (∀ W, Ev W → Kw W → Calls Tryd.prog 25 #[.string (Pl.rep ⟨#[120]⟩ vs)] W fun e w' => Below W.heap.size W w' ∧ ∃ v, e = .returned (.tuple #[.string ⟨#[120]⟩, v, .bool true]) ∧ OwX W.heap.size w' v vs) := fun W h1 h2 => by
      have := implRead_any (Pl.rep ⟨#[120]⟩ vs) W (by have := rep_size ⟨#[120]⟩ vs; omega) h1 h2
      obtain ⟨e1, e2, e3⟩ := rep_read hokx
      unfold RrPost at this
      rw [e1, e2, e3] at this
      exact this
    obtain ⟨r1, g1⟩ := rep_behind hok
    obtain ⟨r2, g2⟩ := rep_behind hokx
    have g2 : 9 < (Pl.rep ⟨#[120]⟩ vs).size := g2
    have hq : (((Pl.rep ⟨#[120]⟩ vs).extract 9 (Pl.rep ⟨#[120]⟩ vs).size).toList == ((Pl.rep id vs).extract (8 + id.size) (Pl.rep id vs).size).toList) = true := by
      rw [ba_eq]
      refine decide_eq_true (bl_inj ?_)
      rw [r1]
      exact r2
    have z1 := rep_size id vs
    have z2 := rep_size ⟨#[120]⟩ vs
    clear hok hokx hvs r1 r2
    generalize Pl.rep id vs = tx at *
    generalize Pl.rep ⟨#[120]⟩ vs = ty at *
    go_wp2_with fail
    refine (K7.out _ (HE.out.keep B6.out) (HK.out.keep B6.out)).mono ?_
    rintro e w7 ⟨hb7, v7, rfl, o7⟩
    have B7 := hideP (B6.out.trans (hb7.mono B6.out.size))
    have R7 := hideP ((R6.out.keep hb7).up hb7.size)
    have Q7 := hideP o7.rd
    clear hb7 o7 B6 R6 K7
    go_wp2_with fail
    refine (K8.out _ (HT.out.keep B7.out) (HK.out.keep B7.out) R7.out).mono ?_
    rintro e w8 ⟨rfl, hb8⟩
    have B8 := hideP (B7.out.trans (hb8.mono B7.out.size))
    have R8 := hideP ((R7.out.keep hb8).up hb8.size)
    have Q8 := hideP ((Q7.out.keep hb8).up hb8.size)
    clear hb8 B7 R7 Q7 K8
    go_wp2_with fail
    refine (K9.out _ (HE.out.keep B8.out) (HK.out.keep B8.out)).mono ?_
    rintro e w9 ⟨hb9, v9, rfl, o9⟩
    have B9 := hideP (B8.out.trans (hb9.mono B8.out.size))
    have R9 := hideP ((R8.out.keep hb9).up hb9.size)
    have Q9 := hideP ((Q8.out.keep hb9).up hb9.size)
    have P9 := hideP o9.rd
    clear hb9 o9 B8 R8 Q8 K9
    go_wp2_with fail
    refine (sameVerdicts_any v7 v vs _ (by omega) Q9.out R9.out).mono ?_
    rintro e w10 ⟨rfl, hb10⟩
    have B10 := hideP (B9.out.trans (hb10.mono B9.out.size))
    have R10 := hideP ((R9.out.keep hb10).up hb10.size)
    have P10 := hideP ((P9.out.keep hb10).up hb10.size)
    clear hb10 B9 R9 Q9 P9
    go_wp2_with fail
    refine (sameVerdicts_any v9 v vs _ (by omega) P10.out R10.out).mono ?_
    rintro e w11 ⟨rfl, hb11⟩
    have B11 := hideP (B10.out.trans (hb11.mono B10.out.size))
    clear hb11 B10 R10 P10
    have BD : Hid (∀ m, Below w.heap.size w (w11.drewN m)) := fun m => below_drewN B11.out m
    obtain ⟨ny, hny⟩ : ∃ ny, ty.size = ny := ⟨_, rfl⟩
    obtain ⟨nx, hnx⟩ : ∃ nx, tx.size = nx := ⟨_, rfl⟩
    obtain ⟨ni, hni⟩ : ∃ ni, id.size = ni := ⟨_, rfl⟩
    rw [hny] at g2 hq z2
    rw [hnx] at g1 hq z1
    rw [hni] at g1 hq
    have d1 : decide ((9 : Int) < (ny : Int)) = true := decide_eq_true (by omega)
    have d2 : decide ((8 : Int) + (ni : Int) < (nx : Int)) = true := decide_eq_true (by omega)
    go_wp2_with fail
    go_quiet (fail)
    go_wp2_with fail
    go_ret
    exact ⟨rfl, BD.out _⟩

end Go.Proofs.YtbmkbplgncoapaaDoor
