import Derived.Test.YtjhflbhbegocdaaOuter
import Derived.Test.YtjhflbhbegocdaaImI
namespace Go.Proofs.Ytjhflbhbegocdaa
open Go.RowKit
set_option linter.unusedVariables false

end Go.Proofs.Ytjhflbhbegocdaa

namespace Go.Proofs.Ytjhflbhbegocdaa
open Go.RowKit
set_option linter.unusedVariables false

set_option maxRecDepth 100000 in
set_option maxHeartbeats 16000000 in
/-- impl.inner of valid arrays -/
theorem innerI_any (f g : Nat) (nv nv2 : Int) (nb nb2 : Bool) (F G : Int → Int → Int × Int) (hcg : ∀ args w, (callFunc g args).run Try.prog w = .ok (.enter g args) w)
    (hcf : ∀ args w, (callFunc f args).run Try.prog w = .ok (.enter f args) w)
    (hF : ∀ x y w', -3000000000 ≤ x → x ≤ 3000000000 → -3000000000 ≤ y → y ≤ 3000000000 → Calls Try.prog f #[.int .i64 x, .int .i64 y] w' (CPost w' (F x y)))
    (hFb : ∀ x y, -3000000000 ≤ x → x ≤ 3000000000 → -3000000000 ≤ y → y ≤ 3000000000 → (F x y).2 = 0 → -3000000000 ≤ (F x y).1 ∧ (F x y).1 ≤ 3000000000)
    (hG : ∀ x y w', -3000000000 ≤ x → x ≤ 3000000000 → -3000000000 ≤ y → y ≤ 3000000000 → Calls Try.prog g #[.int .i64 x, .int .i64 y] w' (CPost w' (G x y)))
    (hGb : ∀ x y, -3000000000 ≤ x → x ≤ 3000000000 → -3000000000 ≤ y → y ≤ 3000000000 → (G x y).2 = 0 → -3000000000 ≤ (G x y).1 ∧ (G x y).1 ≤ 3000000000)
    (b0 b1 b2 b3 : Nat) (sa da sb db : List Int) (w : World)
    (h0 : Rd w.heap.size w (.slice (some ⟨b0, 0, none⟩) sa.length sa.length) sa) (h1 : Rd w.heap.size w (.slice (some ⟨b1, 0, none⟩) da.length da.length) da) (h2 : Rd w.heap.size w (.slice (some ⟨b2, 0, none⟩) sb.length sb.length) sb) (h3 : Rd w.heap.size w (.slice (some ⟨b3, 0, none⟩) db.length db.length) db)
    (oka : Pl.okB sa da = true) (okb : Pl.okB sb db = true) (c : Int) (S D : List Int) (hres : Pl.innM F nv nb G sa da sb db = (c, S, D)) :
    Calls Try.prog 28 #[.agg #[.func (.func f) #[] #[], .int .i64 nv, .bool nb], .agg #[.func (.func g) #[] #[], .int .i64 nv2, .bool nb2], .agg #[.slice (some ⟨b0, 0, none⟩) sa.length sa.length, .slice (some ⟨b1, 0, none⟩) da.length da.length], .agg #[.slice (some ⟨b2, 0, none⟩) sb.length sb.length, .slice (some ⟨b3, 0, none⟩) db.length db.length]] w (KPost w c S D) := by
  have m0 := Pl.ok_max oka
  have m2 := Pl.ok_max okb
  have A2 : Hid (∀ o o', Below w.heap.size w ((w.alloc o).alloc o')) := fun o o' => ((Below.refl _ _).alloc (Nat.le_refl _) _).alloc (by simp) _
  have W0 := hideP (fun o o' => wid_new ((w.alloc o).alloc o') ((h0.keep (A2.out o o')).up (by simp; omega)) ((h1.keep (A2.out o o')).up (by simp; omega)) ((h2.keep (A2.out o o')).up (by simp; omega)) ((h3.keep (A2.out o o')).up (by simp; omega)) 26 26 26)
  have KA := hideP (fun w' => isScalar_any _ (.slice (some ⟨b1, 0, none⟩) da.length da.length) sa _ w' w h0)
  have KB := hideP (fun w' => isScalar_any _ (.slice (some ⟨b3, 0, none⟩) db.length db.length) sb _ w' w h2)
  have e := hres
  unfold Pl.innM at e
  by_cases hsa : sa.length = 0
  · rw [decide_eq_true hsa] at KA
    rw [if_pos (.inl hsa)] at e
    simp only [Prod.mk.injEq] at e
    obtain ⟨rfl, rfl, rfl⟩ := e
    clear h0 h1 h2 h3 oka okb hres hF hFb hG hGb hsa KB m0 m2
    generalize sa.length = la at *
    go_enter Try.func28, Try.ntmps28
    go_wp2_with fail
    refine (KA.out _).mono ?_
    rintro e w1 ⟨rfl, hb1⟩
    have W1 := hideP ((W0.out _ _).keep hb1)
    clear hb1
    have hs1 := W1.out.2.1
    simp at hs1
    have BW1 := hideP ((A2.out _ _).trans (W1.out.1.mono (by simp; omega)))
    go_wp2_with (go_at_call 41; refine (refuse_yes _ _).mono ?_; rintro e w1 ⟨rfl, rfl⟩)
    exact ⟨rfl, BW1.out, .inr ⟨by decide, rfl, rfl, rfl⟩⟩
  · by_cases hsb : sb.length = 0
    · rw [decide_eq_false hsa] at KA
      rw [decide_eq_true hsb] at KB
      rw [if_pos (.inr hsb)] at e
      simp only [Prod.mk.injEq] at e
      obtain ⟨rfl, rfl, rfl⟩ := e
      clear h0 h1 h2 h3 oka okb hres hF hFb hG hGb hsa hsb m0 m2
      generalize sa.length = la at *
      generalize sb.length = lb at *
      go_enter Try.func28, Try.ntmps28
      go_wp2_with fail
      refine (KA.out _).mono ?_
      rintro e w1 ⟨rfl, hb1⟩
      have W1 := hideP ((W0.out _ _).keep hb1)
      clear hb1
      have hs1 := W1.out.2.1
      simp at hs1
      have BW1 := hideP ((A2.out _ _).trans (W1.out.1.mono (by simp; omega)))
      have c2 := W1.out.2.2.1.2.2.1
      have c3 := W1.out.2.2.1.2.2.2
      simp at c2 c3
      go_wp2_with fail
      clear c2 c3
      refine (KB.out _).mono ?_
      rintro e w2 ⟨rfl, hb2⟩
      have W2 := hideP (W1.out.keep hb2)
      have hs2 := W2.out.2.1
      simp at hs2
      have BW2 := hideP ((A2.out _ _).trans (W2.out.1.mono (by simp; omega)))
      clear hb2
      go_wp2_with (go_at_call 41; refine (refuse_yes _ _).mono ?_; rintro e w2 ⟨rfl, rfl⟩)
      exact ⟨rfl, BW2.out, .inr ⟨by decide, rfl, rfl, rfl⟩⟩
    · rw [if_neg (by rintro (h | h); exact hsa h; exact hsb h)] at e
      by_cases hne : sa.getD (sa.length - 1) 0 = sb.getD 0 0
      · rw [if_neg (fun h => h hne)] at e
        obtain ⟨n, hn⟩ : ∃ n : Nat, sb.getD 0 0 = n := by
          have := (Pl.ok_len okb).2
          simp only [Pl.fitsB, Pl.baseB, Bool.and_eq_true] at this
          have := Pl.inR_bd (Pl.all_getD this.1.2 (k := 0) (by omega))
          exact ⟨(sb.getD 0 0).toNat, by omega⟩
        rw [hn] at hne e
        obtain ⟨H, T, hH, hT, hH', hT', hn', hla, hlb, hN⟩ := Pl.inn_len oka okb (by omega) (by omega) hne hn
        have sa' : sa.take (sa.length - 1) ++ [(n : Int)] = sa := by
          rw [← hne, ← Pl.take_snoc sa (sa.length - 1) (by omega), show sa.length - 1 + 1 = sa.length by omega, List.take_length]
        have sb' : (n : Int) :: sb.tail = sb := by
          rw [← hn]
          exact Pl.cons_tail sb hsb
        have la' : sa.length = (sa.take (sa.length - 1)).length + 1 := by rw [List.length_take]; omega
        have lb' : sb.length = sb.tail.length + 1 := by rw [List.length_tail]; omega
        rw [la', lb']
        refine innerI_core f g nv nv2 nb nb2 F G hcg hcf hF hFb hG hGb b0 b1 b2 b3 _ da _ db n w ?_ h1 ?_ h3 (by rw [sa']; exact oka) (by rw [sb']; exact okb) H T hH hT hH' hT' hn' hla hlb hN _ rfl c S D ?_
        · rw [← la', sa']; exact h0
        · rw [← lb', sb']; exact h2
        · rw [Int.toNat_natCast, hT, Int.toNat_natCast] at e
          by_cases hfi : Pl.fitsB (sa.take (sa.length - 1) ++ sb.tail) = true
          · rw [if_pos hfi] at e ⊢
            rw [hN hfi, Int.toNat_natCast] at e
            exact e
          · rw [if_neg hfi] at e ⊢
            exact e
      · rw [if_pos hne] at e
        simp only [Prod.mk.injEq] at e
        obtain ⟨rfl, rfl, rfl⟩ := e
        rw [decide_eq_false hsa] at KA
        rw [decide_eq_false hsb] at KB
        have ga := rd_cell h0 (i := sa.length - 1) (by omega)
        have gb := rd_cell h2 (i := 0) (by omega)
        rw [Nat.zero_add] at ga
        have GA := hideP ga
        have GB := hideP gb
        have hcmp : (sa.getD (sa.length - 1) 0 != sb.getD 0 0) = true := by rw [bne_iff_ne]; exact hne
        have hm0 := m0.1
        have hm2 := m2.1
        have h1a : 1 ≤ sa.length := by omega
        have h1b : 1 ≤ sb.length := by omega
        clear h0 h1 h2 h3 oka okb hres hF hFb hG hGb hsa hsb m0 m2 hne ga gb
        generalize sa.getD (sa.length - 1) 0 = x at *
        generalize sb.getD 0 0 = y at *
        generalize sa.length = la' at *
        obtain ⟨la, rfl⟩ : ∃ la, la' = la + 1 := ⟨la' - 1, by omega⟩
        rw [Nat.add_sub_cancel] at GA
        generalize sb.length = lb at *
        go_enter Try.func28, Try.ntmps28
        go_wp2_with fail
        refine (KA.out _).mono ?_
        rintro e w1 ⟨rfl, hb1⟩
        have W1 := hideP ((W0.out _ _).keep hb1)
        clear hb1
        have hs1 := W1.out.2.1
        simp at hs1
        have BW1 := hideP ((A2.out _ _).trans (W1.out.1.mono (by simp; omega)))
        have c2 := W1.out.2.2.1.2.2.1
        have c3 := W1.out.2.2.1.2.2.2
        simp at c2 c3
        go_wp2_with fail
        clear c2 c3
        refine (KB.out _).mono ?_
        rintro e w2 ⟨rfl, hb2⟩
        have W2 := hideP (W1.out.keep hb2)
        have hs2 := W2.out.2.1
        simp at hs2
        have BW2 := hideP ((A2.out _ _).trans (W2.out.1.mono (by simp; omega)))
        clear hb2
        have c0 := W2.out.2.2.1.1
        have c2 := W2.out.2.2.1.2.2.1
        simp at c0 c2
        have ca : w2.cell? ⟨b0, la, none⟩ = some (.int .i64 x) := (BW2.out.cell (p := ⟨b0, la, none⟩) GA.out.1).trans GA.out.2
        have cb : w2.cell? ⟨b2, 0, none⟩ = some (.int .i64 y) := (BW2.out.cell (p := ⟨b2, 0, none⟩) GB.out.1).trans GB.out.2
        go_wp2_with (first | (go_at_call 41; refine (refuse_no _ _).mono ?_; rintro e w2 ⟨rfl, rfl⟩) | (go_at_call 41; refine (refuse_yes _ _).mono ?_; rintro e w2 ⟨rfl, rfl⟩))
        exact ⟨rfl, BW2.out, .inr ⟨by decide, rfl, rfl, rfl⟩⟩

end Go.Proofs.Ytjhflbhbegocdaa

