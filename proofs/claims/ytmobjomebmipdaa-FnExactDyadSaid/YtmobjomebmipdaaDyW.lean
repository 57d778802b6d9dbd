import Derived.Test.YtmobjomebmipdaaDy6
namespace Go.Proofs.Ytmobjomebmipdaa
open Go.RowKit
set_option linter.unusedVariables false

theorem Pl.cons_tail (sb : List Int) (h : ¬ sb.length = 0) : sb.getD 0 0 :: sb.tail = sb := by
  cases sb with
  | nil => simp at h
  | cons x l => rfl

set_option maxRecDepth 100000 in
set_option maxHeartbeats 4000000 in
/-- impl.from of valid arrays -/
theorem from_any (b0 b1 b2 b3 : Nat) (sa da sb db : List Int) (w : World) (h0 : Rd w.heap.size w (.slice (some ⟨b0, 0, none⟩) sa.length sa.length) sa) (h1 : Rd w.heap.size w (.slice (some ⟨b1, 0, none⟩) da.length da.length) da) (h2 : Rd w.heap.size w (.slice (some ⟨b2, 0, none⟩) sb.length sb.length) sb) (h3 : Rd w.heap.size w (.slice (some ⟨b3, 0, none⟩) db.length db.length) db)
    (oka : Pl.okB sa da = true) (okb : Pl.okB sb db = true) (c : Int) (S D : List Int) (hres : Pl.fromM sa da sb db = (c, S, D)) :
    Calls Try.prog 125 #[.agg #[.slice (some ⟨b0, 0, none⟩) sa.length sa.length, .slice (some ⟨b1, 0, none⟩) da.length da.length], .agg #[.slice (some ⟨b2, 0, none⟩) sb.length sb.length, .slice (some ⟨b3, 0, none⟩) db.length db.length]] w (KPost w c S D) := by
  have e := hres
  unfold Pl.fromM at e
  by_cases hsb : sb.length = 0
  · rw [if_pos hsb] at e
    simp only [Prod.mk.injEq] at e
    obtain ⟨rfl, rfl, rfl⟩ := e
    have KB : Hid (∀ w', Calls Try.prog 91 #[.agg #[.slice (some ⟨b2, 0, none⟩) sb.length sb.length, .slice (some ⟨b3, 0, none⟩) db.length db.length]] w' fun e w'' => e = .returned (.bool true) ∧ Below w'.heap.size w' w'') := fun w' => by
      have := isScalar_any _ (.slice (some ⟨b3, 0, none⟩) db.length db.length) sb _ w' w h2
      rw [decide_eq_true hsb] at this
      exact this
    have W0 := hideP (wid_new w h0 h1 h2 h3 27 27 27)
    clear h0 h1 h2 h3 oka okb hres hsb
    generalize sb.length = lb at *
    go_enter Try.func125, Try.ntmps125
    go_wp2_with fail
    refine (KB.out _).mono ?_
    rintro e w1 ⟨rfl, hb1⟩
    have BW := hideP (W0.out.keep hb1).1
    clear hb1
    go_wp2_with (go_at_call 83; refine (refuse_yes _ _).mono ?_; rintro e w1 ⟨rfl, rfl⟩)
    exact ⟨rfl, BW.out, .inr ⟨by decide, rfl, rfl, rfl⟩⟩
  · rw [if_neg hsb] at e
    obtain ⟨n, hn⟩ : ∃ n : Nat, sb.getD 0 0 = n := by
      have := (Pl.ok_len okb).2
      simp only [Pl.fitsB, Pl.baseB, Bool.and_eq_true] at this
      have := Pl.inR_bd (Pl.all_getD this.1.2 (k := 0) (by omega))
      exact ⟨(sb.getD 0 0).toNat, by omega⟩
    have sb' : (n : Int) :: sb.tail = sb := by
      rw [← hn]
      exact Pl.cons_tail sb hsb
    have lb' : sb.length = sb.tail.length + 1 := by rw [List.length_tail]; omega
    rw [hn] at e
    rw [lb']
    refine from_core b0 b1 b2 b3 sa da sb.tail db n w h0 h1 ?_ h3 oka (by rw [sb']; exact okb) c S D e
    rw [← lb', sb']
    exact h2

set_option maxRecDepth 100000 in
set_option maxHeartbeats 4000000 in
/-- spec.l2From of valid arrays -/
theorem l2From_any (b0 b1 b2 b3 : Nat) (sa da sb db : List Int) (w : World) (h0 : Rd w.heap.size w (.slice (some ⟨b0, 0, none⟩) sa.length sa.length) sa) (h1 : Rd w.heap.size w (.slice (some ⟨b1, 0, none⟩) da.length da.length) da) (h2 : Rd w.heap.size w (.slice (some ⟨b2, 0, none⟩) sb.length sb.length) sb) (h3 : Rd w.heap.size w (.slice (some ⟨b3, 0, none⟩) db.length db.length) db)
    (oka : Pl.okB sa da = true) (okb : Pl.okB sb db = true) (c : Int) (S D : List Int) (hres : Pl.fromM sa da sb db = (c, S, D)) :
    Calls Try.prog 65 #[.agg #[.slice (some ⟨b0, 0, none⟩) sa.length sa.length, .slice (some ⟨b1, 0, none⟩) da.length da.length], .agg #[.slice (some ⟨b2, 0, none⟩) sb.length sb.length, .slice (some ⟨b3, 0, none⟩) db.length db.length]] w (FPost w c S D) := by
  have e := hres
  unfold Pl.fromM at e
  by_cases hsb : sb.length = 0
  · rw [if_pos hsb] at e
    simp only [Prod.mk.injEq] at e
    obtain ⟨rfl, rfl, rfl⟩ := e
    have B : Hid (∀ o o' o'', Below w.heap.size w (((w.alloc o).alloc o').alloc o'')) := fun o o' o'' => below3 w o o' o''
    have test : ((sb.length : Int) == 0) = true := by rw [hsb]; rfl
    clear h0 h1 h2 h3 oka okb hres hsb
    generalize sb.length = lb at *
    go_enter Try.func65, Try.ntmps65
    go_wp2_with fail
    refine bodyPost_ret (v := .tuple #[.agg #[.slice none 0 0, .slice none 0 0], .int .i64 2]) (by simp [results, Try.results65, go_sem]) rfl ⟨B.out _ _ _, _, _, rfl, Own.nil _ _, Own.nil _ _, .inl rfl⟩
  · rw [if_neg hsb] at e
    obtain ⟨n, hn⟩ : ∃ n : Nat, sb.getD 0 0 = n := by
      have := (Pl.ok_len okb).2
      simp only [Pl.fitsB, Pl.baseB, Bool.and_eq_true] at this
      have := Pl.inR_bd (Pl.all_getD this.1.2 (k := 0) (by omega))
      exact ⟨(sb.getD 0 0).toNat, by omega⟩
    have sb' : (n : Int) :: sb.tail = sb := by
      rw [← hn]
      exact Pl.cons_tail sb hsb
    have lb' : sb.length = sb.tail.length + 1 := by rw [List.length_tail]; omega
    rw [hn] at e
    rw [lb']
    refine l2From_core b0 b1 b2 b3 sa da sb.tail db n w h0 h1 ?_ h3 oka (by rw [sb']; exact okb) c S D e
    rw [← lb', sb']
    exact h2

end Go.Proofs.Ytmobjomebmipdaa
