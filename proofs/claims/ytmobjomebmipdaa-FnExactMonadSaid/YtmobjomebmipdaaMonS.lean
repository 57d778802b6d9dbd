import Derived.Test.YtmobjomebmipdaaVec
import Derived.Test.YtmobjomebmipdaaMon5
namespace Go.Proofs.Ytmobjomebmipdaa
open Go.RowKit
set_option linter.unusedVariables false

theorem field1 (a0 a1 : Option Addr) (n0 c0 n1 c1 : Nat) (w : World) : (Instr.field 27 (.agg #[.slice a0 n0 c0, .slice a1 n1 c1]) 1).run Try.prog w = .ok (.slice a1 n1 c1) w := by kernel_rfl

set_option maxRecDepth 100000 in
set_option maxHeartbeats 4000000 in
/-- spec.l2Iota -/
theorem l2Iota_any (v0 v1 : Value) (sh da : List Int) (w : World) (hok : Pl.okB sh da = true) (h0 : Rd w.heap.size w v0 sh) (h1 : Rd w.heap.size w v1 da) (c : Int) (S D : List Int) (hres : Pl.iotaM sh da = (c, S, D)) :
    Calls Try.prog 54 #[.agg #[v0, v1]] w (FPost w c S D) := by
  obtain ⟨a0, d0, e0⟩ := h0.form
  obtain ⟨a1, d1, b1, o1, e1, hao1, hb1, hc1⟩ := h1.parts
  subst e0
  subst e1
  have B : Hid (∀ o o', Below w.heap.size w ((w.alloc o).alloc o')) := fun o o' => ((Below.refl _ _).alloc (Nat.le_refl _) _).alloc (by simp) _
  have PB : Hid (∀ W, Below (w.heap.size + 1 + 1) ((w.alloc (.cells #[.slice a0 sh.length d0, .slice a1 da.length d1] 27)).alloc (.cells #[.slice none 0 0, .slice none 0 0] 27)) W → (W.cell? ⟨w.heap.size, 0, none⟩ = some (.slice a0 sh.length d0) ∧ W.cell? ⟨w.heap.size, 1, none⟩ = some (.slice a1 da.length d1)) ∧ (W.cell? ⟨w.heap.size + 1, 0, none⟩ = some (.slice none 0 0) ∧ W.cell? ⟨w.heap.size + 1, 1, none⟩ = some (.slice none 0 0) ∧ ∀ o, W.frozen? ⟨w.heap.size + 1, o, none⟩ = false) ∧ Below w.heap.size w W) := fun W hb => boxes2 hb
  unfold Pl.iotaM at hres
  by_cases hsl : sh.length = 0
  · rw [if_neg (fun h => h hsl)] at hres
    have test : ((sh.length : Int) != 0) = false := by simp [hsl]
    have hd1 := Pl.ok_one hok hsl
    have hao := hao1 (by omega)
    have hbl := hb1 (by omega)
    have hce := hc1 0 (by omega)
    rw [Nat.add_zero] at hce
    have hdl : 1 ≤ da.length := by omega
    subst hao
    generalize da.getD 0 0 = x at *
    have cx : ∀ o o', ((w.alloc o).alloc o').cell? ⟨b1, o1, none⟩ = some (.int .i64 x) := fun o o' => ((B.out o o').cell (p := ⟨b1, o1, none⟩) hbl).trans hce
    have HCE := hideP hce
    clear h0 h1 hok hsl hao1 hb1 hc1 hce hd1
    generalize sh.length = L at *
    generalize da.length = M at *
    by_cases hx0 : x < 0
    · rw [if_pos hx0] at hres
      simp only [Prod.mk.injEq] at hres
      obtain ⟨rfl, rfl, rfl⟩ := hres
      go_enter Try.func54, Try.ntmps54
      go_wp2_with fail
      refine bodyPost_ret (v := .tuple #[.agg #[.slice none 0 0, .slice none 0 0], .int .i64 1]) (by simp [results, Try.results54, go_sem]) rfl ⟨B.out _ _, _, _, rfl, Own.nil _ _, Own.nil _ _, .inl rfl⟩
    · rw [if_neg hx0] at hres
      by_cases hx1 : 1000 < x
      · rw [if_pos hx1] at hres
        simp only [Prod.mk.injEq] at hres
        obtain ⟨rfl, rfl, rfl⟩ := hres
        go_enter Try.func54, Try.ntmps54
        go_wp2_with fail
        refine bodyPost_ret (v := .tuple #[.agg #[.slice none 0 0, .slice none 0 0], .int .i64 6]) (by simp [results, Try.results54, go_sem]) rfl ⟨B.out _ _, _, _, rfl, Own.nil _ _, Own.nil _ _, .inl rfl⟩
      · rw [if_neg hx1] at hres
        obtain ⟨n, rfl⟩ := Int.eq_ofNat_of_zero_le (show 0 ≤ x by omega)
        rw [Int.toNat_natCast] at hres
        simp only [Prod.mk.injEq] at hres
        obtain ⟨rfl, rfl, rfl⟩ := hres
        have hn : n ≤ 1000 := by omega
        have OE : Hid (∀ o o', (((w.alloc o).alloc o').alloc (.cells #[] 3)).ownsRow (w.heap.size + 1 + 1) 3 1 (.slice (some ⟨w.heap.size + 1 + 1, 0, none⟩) 0 0) 0 (([] : List Int).map (Value.int .i64))) := fun o o' => by
          have := owns_empty ((w.alloc o).alloc o') (w.heap.size + 1 + 1) (by simp)
          have e : ((w.alloc o).alloc o').heap.size = w.heap.size + 1 + 1 := by simp
          rw [e] at this
          exact this
        go_enter Try.func54, Try.ntmps54
        go_wp2_with fail
        go_loopw [4, 5] (fun dv i wr => ∃ j : Nat, j ≤ n ∧ i = .int .i64 j ∧ Hid (wr.ownsRow (w.heap.size + 1 + 1) 3 1 dv j ((Pl.iotaL j).map (Value.int .i64))) ∧ Hid (Below (w.heap.size + 1 + 1) ((w.alloc (.cells #[.slice a0 L d0, .slice (some ⟨b1, o1, none⟩) M d1] 27)).alloc (.cells #[.slice none 0 0, .slice none 0 0] 27)) wr)) (fun _ i _ => n - (intOf i).toNat)
        case atStart => exact ⟨0, Nat.zero_le _, rfl, OE.out _ _, (Below.refl _ _).alloc (by simp) _⟩
        case round =>
          clear cx
          obtain ⟨j, hj, rfl, ho, hbel⟩ := hrel
          have X := hideP (PB.out _ hbel.out)
          have hsw : w.heap.size + 1 + 1 ≤ wr.heap.size := by have := hbel.out.size; simpa using this
          have c11 := X.out.1.2
          have cx : wr.cell? ⟨b1, o1, none⟩ = some (.int .i64 (n : Int)) := (X.out.2.2.cell (p := ⟨b1, o1, none⟩) hbl).trans HCE.out
          obtain ⟨xo, yo, eo⟩ := owns_form ho.out
          subst eo
          by_cases hlt : j < n
          · have hlt' : (j : Int) < (n : Int) := by omega
            go_wp2_with (at_builtin; refine wpList_append_one (base := w.heap.size + 1 + 1) _ _ _ rfl _ _ rfl _ rfl rfl j _ ho.out (by omega) (by omega) ?_)
            intro v' w9 ho9 hg9
            have O9 : Hid (w9.ownsRow (w.heap.size + 1 + 1) 3 1 v' (j + 1) ((Pl.iotaL (j + 1)).map (Value.int .i64))) := by
              show World.ownsRow _ _ _ _ _ _ _
              rw [Pl.iotaL_succ]
              first | exact ho9 | (rw [List.map_append]; exact ho9)
            have D9 : Hid (Below (w.heap.size + 1 + 1) ((w.alloc (.cells #[.slice a0 L d0, .slice (some ⟨b1, o1, none⟩) M d1] 27)).alloc (.cells #[.slice none 0 0, .slice none 0 0] 27)) w9) := (hbel.out.alloc hsw _).grown hg9 (by simp; omega) (fun k hk => (ho.out.lt k hk).1)
            clear ho9 hg9 c11 cx
            go_wp2_with fail
            go_roundw
            case rel => exact ⟨j + 1, by omega, by go_num, O9, D9⟩
            case measure => simp [intOf]; omega
          · have jn : j = n := by omega
            subst jn
            have RD := hideP ((own_of_any ho.out).rd)
            have KV := hideP (l2Vector_any (.slice xo j yo) (Pl.iotaL j) wr (by rw [Pl.iotaL_len]; omega) RD.out)
            rw [Pl.iotaL_len] at KV
            go_wp2_with fail
            refine KV.out.mono ?_
            rintro e w5 ⟨g0, g1, cap, rfl, q0, q1, res, hb5⟩
            have X5 := hideP (PB.out _ (hbel.out.trans (hb5.mono hsw)))
            have R5 := hideP res
            have hs5 := hb5.size
            clear res hb5 c11 cx
            have r0 := X5.out.2.1.1
            have r1 := X5.out.2.1.2.1
            have f2 := X5.out.2.1.2.2
            go_wp2_with fail
            refine bodyPost_ret (v := .tuple #[.agg #[.slice (some ⟨g0, 0, none⟩) 1 1, .slice (some ⟨g1, 0, none⟩) j cap], .int .i64 0]) (by simp [results, Try.results54, go_sem, r0, r1]) rfl ⟨(X5.out.2.2.setCell (by simp) _).setCell (by simp) _, _, _, rfl, ?_, ?_, R5.out.2.2⟩
            · exact Own.base (Own.store (Own.store R5.out.1 (by omega) _) (by omega) _) (by omega)
            · exact Own.base (Own.store (Own.store R5.out.2.1 (by omega) _) (by omega) _) (by omega)
  · rw [if_pos hsl] at hres
    simp only [Prod.mk.injEq] at hres
    obtain ⟨rfl, rfl, rfl⟩ := hres
    have test : ((sh.length : Int) != 0) = true := by rw [bne_iff_ne]; omega
    clear h0 h1 hok hsl hao1 hb1 hc1
    generalize sh.length = L at *
    generalize da.length = M at *
    go_enter Try.func54, Try.ntmps54
    go_wp2_with fail
    refine bodyPost_ret (v := .tuple #[.agg #[.slice none 0 0, .slice none 0 0], .int .i64 2]) (by simp [results, Try.results54, go_sem]) rfl ⟨B.out _ _, _, _, rfl, Own.nil _ _, Own.nil _ _, .inl rfl⟩

end Go.Proofs.Ytmobjomebmipdaa
