import Derived.Test.YtmobjomebmipdaaFl2
import Derived.Test.YtmobjomebmipdaaG1
import Derived.Test.YtmobjomebmipdaaG2
namespace Go.Proofs.Ytmobjomebmipdaa
open Go.RowKit
set_option linter.unusedVariables false

theorem Pl.base_drop {sh : List Int} (h : Pl.baseB sh = true) (k : Nat) : Pl.baseB (sh.drop k) = true := by
  simp only [Pl.baseB, Bool.and_eq_true, decide_eq_true_eq, List.all_eq_true] at h ⊢
  exact ⟨by rw [List.length_drop]; omega, fun x hx => h.2 x (List.mem_of_mem_drop hx)⟩
/-- the strides, the last j of them laid -/
def stJ (sh : List Int) (n j : Nat) : Nat → Int := fun t => if n - j ≤ t then Pl.prodP (sh.drop (n - t)) else 0
theorem stJ_step {sh : List Int} {n j : Nat} (h : j < n) : upd (stJ sh n j) (n - 1 - j) (Pl.prodP (sh.drop (j + 1))) = fun t => if t < n then stJ sh n (j + 1) t else stJ sh n j t := by
  funext t
  unfold upd stJ
  by_cases h1 : t = n - 1 - j
  · subst h1
    rw [if_pos rfl, if_pos (by omega), if_pos (by omega), show n - (n - 1 - j) = j + 1 by omega]
  · rw [if_neg h1]
    by_cases h2 : t < n
    · rw [if_pos h2]
      by_cases h3 : n - j ≤ t
      · rw [if_pos h3, if_pos (by omega)]
      · rw [if_neg h3, if_neg (by omega)]
    · rw [if_neg h2]

set_option maxRecDepth 100000 in
set_option maxHeartbeats 4000000 in
/-- impl.flippedStrides -/
theorem strides_any (b off cap : Nat) (sh : List Int) (w : World) (h0 : 0 < sh.length) (h3 : sh.length ≤ 3) (hbs : Pl.baseB sh = true) (hcap : sh.length ≤ cap) (hm : cap ≤ 9223372036854775807) (h : Rd w.heap.size w (.slice (some ⟨b, off, none⟩) sh.length cap) sh) :
    Calls Try.prog 143 #[.slice (some ⟨b, off, none⟩) sh.length cap] w fun e w' => e = .returned (.slice (some ⟨w.heap.size, 0, none⟩) sh.length sh.length) ∧ Rw w.heap.size 0 sh.length (fun t => Pl.prodP (sh.drop (sh.length - t))) w' ∧ Below w.heap.size w w' := by
  have KC : Hid (∀ (j : Nat) W, j < sh.length → Below w.heap.size w W → ∀ o, (o = off + (j + 1) ∨ sh.length = j + 1) → Calls Try.prog 37 #[.slice (some ⟨b, o, none⟩) (sh.length - (j + 1)) (cap - (j + 1))] W fun e w' => e = .returned (.int .i64 (Pl.prodP (sh.drop (j + 1)))) ∧ w' = W) := fun j W hj hb o ho => by
    refine cellCount_any W.heap.size _ (sh.drop (j + 1)) W (Pl.base_drop hbs _) ?_
    rcases ho with rfl | ho
    · exact rd_post ((h.keep hb).up hb.size) (j + 1) (by omega) (cap - (j + 1))
    · rw [ho, Nat.sub_self]
      exact rd_zero _ _ _ _ _ (by rw [List.length_drop]; omega)
  obtain ⟨i0, hi, hz0, hz1, hz2⟩ := info_parts Try.info3
  have HI := hideP (And.intro hi (And.intro hz0 (And.intro hz1 hz2)))
  clear hi hz0 hz1 hz2 h
  obtain ⟨n, hn⟩ : ∃ n, sh.length = n := ⟨_, rfl⟩
  rw [hn] at h0 h3 hcap KC ⊢
  clear hn
  go_enter Try.func143, Try.ntmps143
  go_wp2_with (at_make; refine wpList_make_full _ rfl _ _ 22 rfl w.heap.size 3 i0 (.int .i64 0) 1 Try.underlying22 HI.out.1 HI.out.2.1 HI.out.2.2.1 _ _ _ _ n rfl rfl rfl rfl ?b2 ?b3 ?b4 ?_)
  case b2 => rw [HI.out.2.2.2]; omega
  case b3 => unfold maxLen; omega
  case b4 => exact Nat.le_refl _
  intro w1 hown hgrow
  rw [made_zeros] at hown
  have B1 : Hid (Below w.heap.size w w1) := (Below.refl _ _).grown hgrow (Nat.le_refl _) (by intro k h; cases h)
  have R1 : Hid (Rw w.heap.size 0 n (stJ sh n 0) w1) := by
    have h1 : w1.ownsRow w.heap.size 3 1 (.slice (some ⟨w.heap.size, 0, none⟩) n n) n ((List.replicate n (0 : Int)).map (Value.int .i64)) := by simpa using hown
    refine (rw_of_own h1 (by simp)).congr fun t ht => ?_
    unfold stJ
    rw [if_neg (by omega)]
    simp [List.getD, ht]
  clear hown hgrow
  go_wp2_with fail
  go_loopw [4, 10] (fun _ i wr => ∃ j : Nat, j ≤ n ∧ i = .int .i64 (j : Int) ∧ Hid (Rw w.heap.size 0 n (stJ sh n j) wr) ∧ Hid (Below w.heap.size w wr)) (fun _ i _ => n - (intOf i).toNat)
  case atStart => exact ⟨0, Nat.zero_le _, rfl, R1, B1⟩
  case round =>
    clear R1 B1
    obtain ⟨j, hj, rfl, RR, BB⟩ := hrel
    by_cases hlt : j < n
    · have hlt' : (j : Int) < (n : Int) := by omega
      have hfw : wr.frozen? ⟨w.heap.size, n - 1 - j, none⟩ = false := by have := (RR.out.2 (n - 1 - j) (by omega)).2; rw [Nat.zero_add] at this; exact this
      have hcw : wr.cell? ⟨w.heap.size, n - 1 - j, none⟩ = some (.int .i64 (stJ sh n j (n - 1 - j))) := by have := (RR.out.2 (n - 1 - j) (by omega)).1; rw [Nat.zero_add] at this; exact this
      generalize stJ sh n j (n - 1 - j) = x0 at hcw
      have NW : Hid (Rw w.heap.size 0 n (stJ sh n (j + 1)) (wr.setCell ⟨w.heap.size, n - 1 - j, none⟩ (.int .i64 (Pl.prodP (sh.drop (j + 1))))) ∧ Below w.heap.size w (wr.setCell ⟨w.heap.size, n - 1 - j, none⟩ (.int .i64 (Pl.prodP (sh.drop (j + 1)))))) := by
        refine ⟨?_, BB.out.setCell (by simp) _⟩
        have := RR.out.set (k := n - 1 - j) (Pl.prodP (sh.drop (j + 1))) (by omega)
        rw [stJ_step hlt, Nat.zero_add] at this
        exact this.congr fun t ht => by rw [if_pos ht]
      have hidx : (n : Int) - 1 - (j : Int) = ((n - 1 - j : Nat) : Int) := by omega
      have hidn : n - 1 - j < n := by omega
      have K1 := hideP (KC.out j wr hlt BB.out)
      clear RR
      by_cases hce : cap = j + 1
      · have hnj : n = j + 1 := by omega
        have K2 := hideP (fun o => K1.out o (.inr hnj))
        subst hce
        have e0 : n - (j + 1) = 0 := by omega
        have e1 : j + 1 - (j + 1) = 0 := by omega
        rw [e0, e1] at K2
        have e2 : n - 1 - j = 0 := by omega
        rw [e2] at NW hfw hcw hidx
        have hidx0 : (n : Int) - 1 - (j : Int) = 0 := by omega
        have HNJ := hideP hnj
        clear hidn e0 e1 e2 K1 hidx hnj
        generalize Pl.prodP (sh.drop (j + 1)) = px at *
        go_wp2_with (go_at_call 37; refine (K2.out _).mono ?_; rintro e wr ⟨rfl, rfl⟩)
        go_roundw
        case rel => exact ⟨j + 1, by omega, by go_num, NW.out.1, NW.out.2⟩
        case measure => simp [intOf]; omega
      · have K2 := hideP (K1.out (off + (j + 1)) (.inl rfl))
        clear K1
        generalize Pl.prodP (sh.drop (j + 1)) = px at *
        generalize hnj : n - 1 - j = q at *
        have HQ := hideP hnj
        clear hnj
        go_wp2_with (go_at_call 37; refine K2.out.mono ?_; rintro e wr ⟨rfl, rfl⟩)
        go_roundw
        case rel => exact ⟨j + 1, by omega, by go_num, NW.out.1, NW.out.2⟩
        case measure => simp [intOf]; omega
    · have hlt' : ¬ (j : Int) < (n : Int) := by omega
      have RE : Hid (Rw w.heap.size 0 n (fun t => Pl.prodP (sh.drop (n - t))) wr) := RR.out.congr fun t ht => by
        unfold stJ
        rw [if_pos (by omega)]
      go_wp2_with fail
      go_ret
      exact ⟨rfl, RE.out, BB.out⟩

end Go.Proofs.Ytmobjomebmipdaa
