import Derived.Test.YtmobjomebmipdaaS4
namespace Go.Proofs.Ytmobjomebmipdaa
open Go.RowKit
set_option linter.unusedVariables false

/-- where the search begins and ends -/
structure Bnd (a m b mid s0 r0 : Nat) : Prop where
  q1 : a ≤ s0
  q2 : s0 ≤ r0
  q3 : r0 ≤ m
  q4 : r0 ≤ mid
  q5 : mid + m ≤ b + s0
  q6 : s0 = a ∨ mid + m = b + s0
  q7 : r0 = m ∨ r0 = mid
theorem Bnd.hi {a m b mid : Nat} (h1 : a < m) (h2 : m < b) (hd : a + b ≤ 2 * mid + 1) (hd2 : 2 * mid ≤ a + b) (h : mid < m) : Bnd a m b mid (mid + m - b) mid := ⟨by omega, by omega, by omega, by omega, by omega, by omega, by omega⟩
theorem Bnd.lo {a m b mid : Nat} (h1 : a < m) (h2 : m < b) (hd : a + b ≤ 2 * mid + 1) (hd2 : 2 * mid ≤ a + b) (h : ¬ mid < m) : Bnd a m b mid a m := ⟨by omega, by omega, by omega, by omega, by omega, by omega, by omega⟩

/-- the two halves, each merged -/
theorem sm_math {k : Int → Int} {f : Nat → Int} {a m b mid s0 r0 s e : Nat} (hB : Bnd a m b mid s0 r0) (h1 : a < m) (h2 : m < b) (hs0 : s0 ≤ s) (hs1 : s ≤ r0) (he : e + s = mid + m) (sL : Pl.SrtF k f a m) (sR : Pl.SrtF k f m b)
    (hL : ∀ t, s0 ≤ t → t < s → k (f t) ≤ k (f (mid + m - 1 - t))) (hR : ∀ t, s ≤ t → t < r0 → k (f (mid + m - 1 - t)) < k (f t)) :
    Pl.mrg k (Pl.seg f a m) (Pl.seg f m b) = Pl.mrg k (Pl.seg f a s) (Pl.seg f m e) ++ Pl.mrg k (Pl.seg f s m) (Pl.seg f e b) := by
  obtain ⟨b1, b2, b3, b4, b5, b6, b7⟩ := hB
  rw [← Pl.seg_cat f (show a ≤ s by omega) (show s ≤ m by omega), ← Pl.seg_cat f (show m ≤ e by omega) (show e ≤ b by omega)]
  refine Pl.mrg_cut (fun x hx y hy => ?_) (fun x hx y hy => ?_)
  · obtain ⟨t, t1, t2, rfl⟩ := Pl.seg_mem hx
    obtain ⟨u, u1, u2, rfl⟩ := Pl.seg_mem hy
    by_cases hs : s0 < s
    · have c := hL (s - 1) (by omega) (by omega)
      rw [show mid + m - 1 - (s - 1) = e by omega] at c
      have c1 : k (f t) ≤ k (f (s - 1)) := by
        by_cases ee : t = s - 1
        · rw [ee]; omega
        · exact sL t (s - 1) t1 (by omega) (by omega)
      have c2 : k (f e) ≤ k (f u) := by
        by_cases ee : u = e
        · rw [ee]; omega
        · exact sR e u (by omega) (by omega) u2
      omega
    · omega
  · obtain ⟨t, t1, t2, rfl⟩ := Pl.seg_mem hx
    obtain ⟨u, u1, u2, rfl⟩ := Pl.seg_mem hy
    by_cases hs : s < r0
    · have c := hR s (Nat.le_refl _) hs
      rw [show mid + m - 1 - s = e - 1 by omega] at c
      have c1 : k (f t) ≤ k (f (e - 1)) := by
        by_cases ee : t = e - 1
        · rw [ee]; omega
        · exact sR t (e - 1) t1 (by omega) (by omega)
      have c2 : k (f s) ≤ k (f u) := by
        by_cases ee : u = s
        · rw [ee]; omega
        · exact sL s u (by omega) (by omega) u2
      omega
    · omega
theorem rot_none {f : Nat → Int} {s m e : Nat} (hsm : s ≤ m) (hme : m ≤ e) (h : ¬ (s < m ∧ m < e)) : rotF f s m e = f := by
  funext t
  unfold rotF
  repeat' split
  all_goals first | rfl | (congr 1; omega) | (exfalso; omega)
/-- the four parts behind the turn -/
theorem rot_segs {f : Nat → Int} {a s m e b mid : Nat} (has : a ≤ s) (hsm : s ≤ m) (hme : m ≤ e) (heb : e ≤ b) (he : e + s = mid + m) :
    Pl.seg (rotF f s m e) a s = Pl.seg f a s ∧ Pl.seg (rotF f s m e) s mid = Pl.seg f m e ∧ Pl.seg (rotF f s m e) mid e = Pl.seg f s m ∧ Pl.seg (rotF f s m e) e b = Pl.seg f e b := by
  refine ⟨Pl.seg_congr fun t t1 t2 => ?_, Pl.seg_shift (by omega) fun t ht => ?_, Pl.seg_shift (by omega) fun t ht => ?_, Pl.seg_congr fun t t1 t2 => ?_⟩
  · unfold rotF
    rw [if_neg (by omega), if_neg (by omega)]
  · unfold rotF
    rw [if_pos (by omega)]
    congr 1; omega
  · unfold rotF
    rw [if_neg (by omega), if_pos (by omega)]
    congr 1; omega
  · unfold rotF
    rw [if_neg (by omega), if_neg (by omega)]
theorem rot_beyond {f : Nat → Int} {s m e t : Nat} (hsm : s ≤ m) (hme : m ≤ e) (h : t < s ∨ e ≤ t) : rotF f s m e t = f t := by
  unfold rotF
  rw [if_neg (by omega), if_neg (by omega)]
theorem rot_ok {f : Nat → Int} {s m e n : Nat} {ok : Int → Prop} (hsm : s ≤ m) (hme : m ≤ e) (hen : e ≤ n) (h : ∀ t, t < n → ok (f t)) : ∀ t, t < n → ok (rotF f s m e t) := by
  intro t ht
  unfold rotF
  repeat' split
  all_goals exact h _ (by omega)
/-- right places stay right ones -/
theorem mrg_ok {k : Int → Int} {f f' : Nat → Int} {a b n : Nat} {L R : List Int} {ok : Int → Prop} (hb : b ≤ n) (h : ∀ t, t < n → ok (f t)) (hs : Pl.seg f' a b = Pl.mrg k L R) (hL : ∀ x ∈ L, ok x) (hR : ∀ x ∈ R, ok x) (ho : ∀ t, (t < a ∨ b ≤ t) → f' t = f t) : ∀ t, t < n → ok (f' t) := by
  intro t ht
  by_cases hin : a ≤ t ∧ t < b
  · have hm : f' t ∈ Pl.seg f' a b := Pl.seg_in hin.1 hin.2
    rw [hs] at hm
    rcases Pl.mem_mrg k _ L R (Nat.le_refl _) hm with h1 | h1
    · exact hL _ h1
    · exact hR _ h1
  · rw [ho t (by omega)]
    exact h t ht
theorem seg_ok {f : Nat → Int} {a b n : Nat} {ok : Int → Prop} (hb : b ≤ n) (h : ∀ t, t < n → ok (f t)) : ∀ x ∈ Pl.seg f a b, ok x := by
  intro x hx
  obtain ⟨t, _, t2, rfl⟩ := Pl.seg_mem hx
  exact h t (by omega)
theorem srt_seg {k : Int → Int} {f f' : Nat → Int} {a b c d : Nat} (h : Pl.seg f a b = Pl.seg f' c d) (hs : Pl.SrtF k f' c d) : Pl.SrtF k f a b := Pl.srtF_of (by rw [h]; exact Pl.srt_of hs)
theorem srt_part {k : Int → Int} {f : Nat → Int} {a b c d : Nat} (hs : Pl.SrtF k f a b) (h1 : a ≤ c) (h2 : d ≤ b) : Pl.SrtF k f c d := fun i j x y z => hs i j (by omega) y (by omega)

set_option maxRecDepth 100000 in
set_option maxHeartbeats 16000000 in
/-- slices.symMergeCmpFunc, of two parts of more than one number each, its own calls as premises -/
theorem sm_gen (B0 : Nat) (w0 : World) (pa g off cap n a m b : Nat) (k : Int → Int) (ok : Int → Prop) (f : Nat → Int) (w : World) (hX : Cx B0 w0 pa g n k ok) (hR : Rw g off n f w) (h1 : a + 1 < m) (h2 : m + 1 < b) (hb : b ≤ n) (hn : n ≤ 1000000) (hok : ∀ t, t < n → ok (f t)) (sL : Pl.SrtF k f a m) (sR : Pl.SrtF k f m b) (hB : Below B0 w0 w)
    (hrec : ∀ (a' m' b' : Nat) (f' : Nat → Int) (w' : World), b' - a' < b - a → a' < m' → m' < b' → b' ≤ n → Rw g off n f' w' → (∀ t, t < n → ok (f' t)) → Pl.SrtF k f' a' m' → Pl.SrtF k f' m' b' → Below B0 w0 w' → Calls Try.prog 157 #[.slice (some ⟨g, off, none⟩) n cap, .int .i64 (a' : Int), .int .i64 (m' : Int), .int .i64 (b' : Int), cl pa] w' (SmPost g off n a' m' b' k f' w')) :
    Calls Try.prog 157 #[.slice (some ⟨g, off, none⟩) n cap, .int .i64 (a : Int), .int .i64 (m : Int), .int .i64 (b : Int), cl pa] w (SmPost g off n a m b k f w) := by
  have HR := hideP hR
  have HX := hideP hX
  have HB := hideP hB
  have HK := hideP hok
  have HSL := hideP sL
  have HSR := hideP sR
  have HREC := hideP hrec
  have hcf := callF57
  have HSW : Hid (B0 ≤ w.heap.size) := Nat.le_trans HX.out.g (Nat.le_of_lt HR.out.1)
  have hma : ((m : Int) - (a : Int) == 1) = false := by rw [beq_eq_false_iff_ne]; omega
  have hbm : ((b : Int) - (m : Int) == 1) = false := by rw [beq_eq_false_iff_ne]; omega
  obtain ⟨mid, hmid⟩ : ∃ mid : Nat, ((a : Int) + (b : Int)) / 2 = (mid : Int) := ⟨(a + b) / 2, by omega⟩
  have hd1 : a + b ≤ 2 * mid + 1 := by omega
  have hd2 : 2 * mid ≤ a + b := by omega
  clear hR hX hB hok sL sR hrec
  go_enter Try.func157, Try.ntmps157
  go_upto_if 140 with fail
  clear hmid
  go_cut [20, 21] from 138 to 219 (fun v20 v21 wx => ∃ s0 r0 : Nat, v20 = .int .i64 (s0 : Int) ∧ v21 = .int .i64 (r0 : Int) ∧ Bnd a m b mid s0 r0 ∧ wx = w)
  case first =>
    by_cases hdm : mid < m
    · have hdm' : (mid : Int) < (m : Int) := by omega
      go_wp2_with fail
      go_meet
      case rel => exact ⟨mid + m - b, mid, by congr 1; omega, rfl, Bnd.hi (by omega) (by omega) hd1 hd2 hdm, rfl⟩
    · have hdm' : ¬ (mid : Int) < (m : Int) := by omega
      go_wp2_with fail
      go_meet
      case rel => exact ⟨a, m, rfl, rfl, Bnd.lo (by omega) (by omega) hd1 hd2 hdm, rfl⟩
  case rest =>
    obtain ⟨s0, r0, rfl, rfl, hBn, rfl⟩ := hcut
    have HBn := hideP hBn
    obtain ⟨b1, b2, b3, b4, b5, b6, b7⟩ := hBn
    clear b6 b7
    rename World => w
    go_wp2_with fail
    go_loopw [20, 21, 23] (fun vi vj _ wr => ∃ i j : Nat, s0 ≤ i ∧ i ≤ j ∧ j ≤ r0 ∧ vi = .int .i64 (i : Int) ∧ vj = .int .i64 (j : Int) ∧ Hid (∀ t, s0 ≤ t → t < i → k (f t) ≤ k (f (mid + m - 1 - t))) ∧ Hid (∀ t, j ≤ t → t < r0 → k (f (mid + m - 1 - t)) < k (f t)) ∧ Hid (Rw g off n f wr) ∧ Hid (Gr g w wr)) (fun vi vj _ _ => (intOf vj).toNat - (intOf vi).toNat)
    case atStart => exact ⟨s0, r0, Nat.le_refl _, b2, Nat.le_refl _, rfl, rfl, fun t h1 h2 => by omega, fun t h1 h2 => by omega, HR, Gr.refl _ _⟩
    case round =>
      obtain ⟨i, j, hmi, hij, hjb, rfl, rfl, HL, HG, RR, GG⟩ := hrel
      by_cases hlt : i < j
      · have hlt' : (i : Int) < (j : Int) := by omega
        obtain ⟨h, hh⟩ : ∃ h : Nat, ((i : Int) + (j : Int)) / 2 = (h : Int) := ⟨(i + j) / 2, by omega⟩
        have hih : i ≤ h := by omega
        have hhj : h < j := by omega
        have hhn : h < n := by omega
        have BW := hideP (GG.out.keep HB.out HX.out.g HSW.out)
        have hqh : ((mid + m - 1 - h : Nat) : Int) = (mid : Int) + (m : Int) - 1 - (h : Int) := by omega
        have hqhn : mid + m - 1 - h < n := by omega
        have hcw : ∀ t, t < n → wr.cell? ⟨g, off + t, none⟩ = some (.int .i64 (f t)) := fun t ht => (RR.out.2 t ht).1
        have KC : Hid (∀ m', Calls Try.prog 145 #[.int .i64 (f (mid + m - 1 - h)), .int .i64 (f h), .pointer (some ⟨pa, 0, none⟩)] (wr.drewN m') fun e w' => e = .returned (.int .i64 (cmI (k (f (mid + m - 1 - h))) (k (f h)))) ∧ ∃ q, w' = (wr.drewN m').drewN q) := fun m' =>
          HX.out.cmp (f (mid + m - 1 - h)) (f h) (wr.drewN m') (HK.out _ (by omega)) (HK.out _ (by omega)) (below_drewN BW.out m')
        obtain ⟨c, hc⟩ : ∃ c, cmI (k (f (mid + m - 1 - h))) (k (f h)) = c := ⟨_, rfl⟩
        have hcn : c < 0 ↔ k (f (mid + m - 1 - h)) < k (f h) := by rw [← hc]; exact cmI_neg
        rw [hc] at KC
        clear hc
        by_cases hl : k (f (mid + m - 1 - h)) < k (f h)
        · have hcl : c < 0 := hcn.2 hl
          have hcd : decide (c < 0) = true := decide_eq_true hcl
          have HG' : Hid (∀ t, h ≤ t → t < r0 → k (f (mid + m - 1 - t)) < k (f t)) := fun t h1 h2 => by
            by_cases e : t = h
            · rw [e]; exact hl
            · have c1 := HSL.out h t (by omega) (by omega) (by omega)
              have c2 := HSR.out (mid + m - 1 - t) (mid + m - 1 - h) (by omega) (by omega) (by omega)
              omega
          clear hcn hl
          go_upto_region 35 with fail
          clear hh
          go_quiet (exact Calls.quiet_of (KC.out _))
          go_wp2_with fail
          go_roundw
          case rel => exact ⟨i, h, hmi, hih, by omega, rfl, by go_num, HL, HG', (RR.out.drewN _), (GG.out.trans (Gr.below (below_drewN (Below.refl _ _) _)))⟩
          case measure => simp [intOf]; omega
        · have hcl : ¬ c < 0 := fun h => hl (hcn.1 h)
          have hcd : decide (c < 0) = false := decide_eq_false hcl
          have HL' : Hid (∀ t, s0 ≤ t → t < h + 1 → k (f t) ≤ k (f (mid + m - 1 - t))) := fun t h1 h2 => by
            by_cases e : t = h
            · rw [e]; omega
            · have c1 := HSL.out t h (by omega) (by omega) (by omega)
              have c2 := HSR.out (mid + m - 1 - h) (mid + m - 1 - t) (by omega) (by omega) (by omega)
              omega
          clear hcn hl
          go_upto_region 35 with fail
          clear hh
          go_quiet (exact Calls.quiet_of (KC.out _))
          go_wp2_with fail
          go_roundw
          case rel => exact ⟨h + 1, j, by omega, by omega, hjb, by go_num, rfl, HL', HG, (RR.out.drewN _), (GG.out.trans (Gr.below (below_drewN (Below.refl _ _) _)))⟩
          case measure => simp [intOf]; omega
      · have hlt' : ¬ (i : Int) < (j : Int) := by omega
        obtain rfl : i = j := by omega
        obtain ⟨e, he⟩ : ∃ e, e + i = mid + m := ⟨mid + m - i, by omega⟩
        have he' : (mid : Int) + (m : Int) - (i : Int) = (e : Int) := by omega
        have HM := hideP (sm_math HBn.out (by omega) (by omega) hmi hjb he HSL.out HSR.out HL.out HG.out)
        have hme : m ≤ e := by omega
        have him : i ≤ m := by omega
        have hai : a ≤ i := by omega
        have heb : e ≤ b := by omega
        have HSG := hideP (rot_segs (f := f) hai him hme heb he)
        have HOK := hideP (rot_ok (f := f) (s := i) (m := m) (e := e) (n := n) (ok := ok) him hme (by omega) HK.out)
        clear HBn HL HG b5
        go_upto_region 39 with fail
        go_cut [185] from 178 to 219 (fun c wx => c = .bool (decide (i < m ∧ m < e)) ∧ wx = wr)
        case first =>
          by_cases hc1 : i < m
          · have hc1' : (i : Int) < (m : Int) := by omega
            by_cases hc2 : m < e
            · have hc2' : (m : Int) < (e : Int) := by omega
              go_wp2_with fail
              go_meet
              case rel => exact ⟨congrArg Value.bool (decide_eq_true ⟨hc1, hc2⟩).symm, rfl⟩
            · have hc2' : ¬ (m : Int) < (e : Int) := by omega
              go_wp2_with fail
              go_meet
              case rel => exact ⟨congrArg Value.bool (decide_eq_false (fun h => hc2 h.2)).symm, rfl⟩
          · have hc1' : ¬ (i : Int) < (m : Int) := by omega
            go_wp2_with fail
            go_meet
            case rel => exact ⟨congrArg Value.bool (decide_eq_false (fun h => hc1 h.1)).symm, rfl⟩
        case rest =>
        obtain ⟨rfl, rfl⟩ := hcut
        clear he'
        go_upto_if 185 with fail
        go_cut [24] from 178 to 219 (fun v24 wx => v24 = .int .i64 (e : Int) ∧ Hid (Rw g off n (rotF f i m e) wx) ∧ Hid (Gr g w wx))
        case first =>
          by_cases hc : i < m ∧ m < e
          · have KR := hideP (rotate_any g off cap n i m e f (cl pa) wc RR.out hc.1 hc.2 (by omega) hn)
            have hcd : decide (i < m ∧ m < e) = true := decide_eq_true hc
            go_wp2_with fail
            refine KR.out.mono ?_
            rintro _ w2 ⟨rfl, hr, hg⟩
            have R2 := hideP hr
            have G2 := hideP (GG.out.trans hg)
            clear hr hg KR
            go_wp2_with fail
            go_meet
            case rel => exact ⟨rfl, R2, G2⟩
          · have R2 : Hid (Rw g off n (rotF f i m e) wc) := by show Rw _ _ _ _ _; rw [rot_none him hme hc]; exact RR.out
            have hcd : decide (i < m ∧ m < e) = false := decide_eq_false hc
            go_wp2_with fail
            go_meet
            case rel => exact ⟨rfl, R2, GG⟩
        case rest =>
          clear RR GG
          obtain ⟨rfl, RR, GG⟩ := hcut
          obtain ⟨f1, hf1⟩ : ∃ f1, rotF f i m e = f1 := ⟨_, rfl⟩
          have HF1 := hideP hf1
          rw [hf1] at RR HSG HOK
          clear hf1
          go_upto_region 41 with fail
          go_cut [199] from 192 to 219 (fun c wx => c = .bool (decide (a < i ∧ i < mid)) ∧ wx = wc)
          case first =>
            by_cases hc1 : a < i
            · have hc1' : (a : Int) < (i : Int) := by omega
              by_cases hc2 : i < mid
              · have hc2' : (i : Int) < (mid : Int) := by omega
                go_wp2_with fail
                go_meet
                case rel => exact ⟨congrArg Value.bool (decide_eq_true ⟨hc1, hc2⟩).symm, rfl⟩
              · have hc2' : ¬ (i : Int) < (mid : Int) := by omega
                go_wp2_with fail
                go_meet
                case rel => exact ⟨congrArg Value.bool (decide_eq_false (fun h => hc2 h.2)).symm, rfl⟩
            · have hc1' : ¬ (a : Int) < (i : Int) := by omega
              go_wp2_with fail
              go_meet
              case rel => exact ⟨congrArg Value.bool (decide_eq_false (fun h => hc1 h.1)).symm, rfl⟩
          case rest =>
          obtain ⟨rfl, rfl⟩ := hcut
          go_upto_if 199 with fail
          go_cut [24] from 192 to 219 (fun v24 wx => v24 = .int .i64 (e : Int) ∧ ∃ f2, Hid (Rw g off n f2 wx) ∧ Hid (Pl.seg f2 a mid = Pl.mrg k (Pl.seg f a i) (Pl.seg f m e)) ∧ Hid (∀ t, (t < a ∨ mid ≤ t) → f2 t = f1 t) ∧ Hid (Gr g w wx))
          case first =>
            by_cases hc : a < i ∧ i < mid
            · have BW := hideP (GG.out.keep HB.out HX.out.g HSW.out)
              have KM := hideP (HREC.out a i mid f1 wc (by omega) hc.1 hc.2 (by omega) RR.out HOK.out (srt_seg HSG.out.1 (srt_part HSL.out (Nat.le_refl _) him)) (srt_seg HSG.out.2.1 (srt_part HSR.out (Nat.le_refl _) heb)) BW.out)
              have hcd : decide (a < i ∧ i < mid) = true := decide_eq_true hc
              go_wp2_with fail
              refine KM.out.mono ?_
              rintro _ w2 ⟨rfl, ⟨f2, hr, hs, ho⟩, hg⟩
              have R2 := hideP hr
              have G2 := hideP (GG.out.trans hg)
              have O2 := hideP ho
              have S2 : Hid (Pl.seg f2 a mid = Pl.mrg k (Pl.seg f a i) (Pl.seg f m e)) := by
                rw [HSG.out.1, HSG.out.2.1] at hs
                exact hs
              clear hr hg ho hs KM
              go_wp2_with fail
              go_meet
              case rel => exact ⟨rfl, f2, R2, S2, O2, G2⟩
            · have S2 : Hid (Pl.seg f1 a mid = Pl.mrg k (Pl.seg f a i) (Pl.seg f m e)) := by
                show _ = _
                rw [← Pl.seg_cat f1 hai (show i ≤ mid by omega), HSG.out.1, HSG.out.2.1]
                by_cases ha : a < i
                · rw [Pl.seg_nil f (show e ≤ m by omega), Pl.mrg_nil, List.append_nil]
                · rw [Pl.seg_nil f (show i ≤ a by omega), Pl.nil_mrg, List.nil_append]
              have hcd : decide (a < i ∧ i < mid) = false := decide_eq_false hc
              go_wp2_with fail
              go_meet
              case rel => exact ⟨rfl, f1, RR, S2, fun _ _ => rfl, GG⟩
          case rest =>
            clear RR GG
            obtain ⟨rfl, f2, RR, HS2, HO2, GG⟩ := hcut
            have OUT : Hid (∀ f3 w3, Rw g off n f3 w3 → Pl.seg f3 mid b = Pl.mrg k (Pl.seg f i m) (Pl.seg f e b) → (∀ t, (t < mid ∨ b ≤ t) → f3 t = f2 t) → Gr g w w3 → SmPost g off n a m b k f w (.returned (.tuple #[])) w3) := fun f3 w3 hr hs ho hg => by
              refine ⟨rfl, ⟨f3, hr, ?_, fun t ht => ?_⟩, hg⟩
              · rw [HM.out, ← Pl.seg_cat f3 (show a ≤ mid by omega) (show mid ≤ b by omega), hs, ← HS2.out]
                rw [Pl.seg_congr (f := f3) (f' := f2) (a := a) (b := mid) (fun t _ t2 => ho t (.inl t2))]
              · rw [ho t (by omega), HO2.out t (by omega), ← HF1.out, rot_beyond him hme (by omega)]
            have E2 : Hid (Pl.seg f2 mid e = Pl.seg f i m ∧ Pl.seg f2 e b = Pl.seg f e b) := by
              refine ⟨?_, ?_⟩
              · rw [Pl.seg_congr (f := f2) (f' := f1) (a := mid) (b := e) (fun t t1 _ => HO2.out t (.inr t1))]; exact HSG.out.2.2.1
              · rw [Pl.seg_congr (f := f2) (f' := f1) (a := e) (b := b) (fun t t1 _ => HO2.out t (.inr (by omega)))]; exact HSG.out.2.2.2
            go_upto_region 43 with fail
            go_cut [213] from 206 to 219 (fun c wx => c = .bool (decide (mid < e ∧ e < b)) ∧ wx = wc)
            case first =>
              by_cases hc1 : mid < e
              · have hc1' : (mid : Int) < (e : Int) := by omega
                by_cases hc2 : e < b
                · have hc2' : (e : Int) < (b : Int) := by omega
                  go_wp2_with fail
                  go_meet
                  case rel => exact ⟨congrArg Value.bool (decide_eq_true ⟨hc1, hc2⟩).symm, rfl⟩
                · have hc2' : ¬ (e : Int) < (b : Int) := by omega
                  go_wp2_with fail
                  go_meet
                  case rel => exact ⟨congrArg Value.bool (decide_eq_false (fun h => hc2 h.2)).symm, rfl⟩
              · have hc1' : ¬ (mid : Int) < (e : Int) := by omega
                go_wp2_with fail
                go_meet
                case rel => exact ⟨congrArg Value.bool (decide_eq_false (fun h => hc1 h.1)).symm, rfl⟩
            case rest =>
            obtain ⟨rfl, rfl⟩ := hcut
            by_cases hc : mid < e ∧ e < b
            · have BW := hideP (GG.out.keep HB.out HX.out.g HSW.out)
              have OK2 := mrg_ok (by omega) HOK.out HS2.out (seg_ok (by omega) HK.out) (seg_ok (by omega) HK.out) HO2.out
              have KM := hideP (HREC.out mid e b f2 wc (by omega) hc.1 hc.2 hb RR.out OK2 (srt_seg E2.out.1 (srt_part HSL.out hai (Nat.le_refl _))) (srt_seg E2.out.2 (srt_part HSR.out hme (Nat.le_refl _))) BW.out)
              have hcd : decide (mid < e ∧ e < b) = true := decide_eq_true hc
              clear OK2
              go_wp2_with fail
              refine KM.out.mono ?_
              rintro _ w3 ⟨rfl, ⟨f3, hr, hs, ho⟩, hg⟩
              rw [E2.out.1, E2.out.2] at hs
              have F3 := hideP (OUT.out f3 w3 hr hs ho (GG.out.trans hg))
              clear hr hg ho hs KM
              go_wp2_with fail
              go_end0
              exact F3.out
            · have F3 : Hid (SmPost g off n a m b k f w (.returned (.tuple #[])) wc) := OUT.out f2 wc RR.out (by
                rw [← Pl.seg_cat f2 (show mid ≤ e by omega) heb, E2.out.1, E2.out.2]
                by_cases ha : mid < e
                · rw [Pl.seg_nil f (show b ≤ e by omega), Pl.mrg_nil, List.append_nil]
                · rw [Pl.seg_nil f (show m ≤ i by omega), Pl.nil_mrg, List.nil_append]) (fun _ _ => rfl) GG.out
              have hcd : decide (mid < e ∧ e < b) = false := decide_eq_false hc
              go_wp2_with fail
              go_end0
              exact F3.out

end Go.Proofs.Ytmobjomebmipdaa
