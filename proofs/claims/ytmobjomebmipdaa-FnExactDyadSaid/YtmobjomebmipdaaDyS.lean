import Derived.Test.YtmobjomebmipdaaDyP
import Derived.Test.YtmobjomebmipdaaRows2
import Derived.Test.YtmobjomebmipdaaRow
namespace Go.Proofs.Ytmobjomebmipdaa
open Go.RowKit
set_option linter.unusedVariables false

/-- a slice of a list with its first cell cut off: a step of its own -/
theorem wpList_lo1 {ops : Array Oper} {rest : List Oper} {o : Oper} {a : Act} {Q : Exit → Act → World → Prop} (w : World) (hg : o.guard = none) (x y : Operand) (g m o2 : Nat) (h : o2 = if m = 0 then 0 else 1) (ho : o.op = Op.slice 22 x (some y) none none) (hx : a.eval x = .slice (some ⟨g, 0, none⟩) (m + 1) (m + 1)) (hy : a.eval y = .int .i64 1)
    (hK : wpList Try.prog ops Q rest (a.put o.dst (.slice (some ⟨g, o2, none⟩) m m)) w) : wpList Try.prog ops Q (o :: rest) a w := by
  refine wpList_plain hg fun K hK' => ?_
  unfold Oper.wp
  rw [exec_lo1 x y g m o2 h ho hx hy w]
  exact hK' _ _ hK

set_option maxRecDepth 100000 in
set_option maxHeartbeats 8000000 in
/-- spec.l2Span: m rows from place i on -/
theorem l2Span_any (g b3 k3 : Nat) (n : Nat) (tb db : List Int) (i : Int) (m : Nat) (w : World) (h0 : Rd w.heap.size w (.slice (some ⟨g, 0, none⟩) (tb.length + 1) (tb.length + 1)) ((n : Int) :: tb)) (h1 : Rd w.heap.size w (.slice (some ⟨b3, 0, none⟩) db.length k3) db)
    (hk3 : db.length ≤ k3) (hk4 : k3 ≤ 9223372036854775807) (hi0 : -6000000000 ≤ i) (hi1 : i ≤ 1000) (hm : m ≤ 6000000000) (hok : Pl.okB ((n : Int) :: tb) db = true) (TP : Nat) (hTP : Pl.prodP tb = TP) (c : Int) (SS DD : List Int)
    (hres : (if Pl.fitsB ((m : Int) :: tb) = true then ((0 : Int), (m : Int) :: tb, Pl.catZ (fun t => Pl.rowZ db TP n (i + (t : Int))) m) else (6, [], [])) = (c, SS, DD)) :
    Calls Try.prog 119 #[.agg #[.slice (some ⟨g, 0, none⟩) (tb.length + 1) (tb.length + 1), .slice (some ⟨b3, 0, none⟩) db.length k3], .int .i64 i, .int .i64 (i + (m : Int))] w (FPost w c SS DD) := by
  obtain ⟨hmx0, hmx1⟩ := Pl.ok_max hok
  have hlt2 : tb.length ≤ 2 := by simp at hmx0; omega
  have hall : ((n : Int) :: tb).all Pl.inR = true := by
    have := (Pl.ok_len hok).2
    simp only [Pl.fitsB, Pl.baseB, Bool.and_eq_true] at this
    exact this.1.2
  have hbb : Pl.baseB tb = true := by
    have := (Pl.ok_len hok).2
    simp only [Pl.fitsB, Bool.and_eq_true] at this
    exact Pl.base_tail this.1
  have hn1 : n ≤ 1000 := by
    simp only [List.all_cons, Bool.and_eq_true] at hall
    have := Pl.inR_bd hall.1
    omega
  have hnT : (n : Int) * (TP : Int) = db.length := by
    have e := (Pl.ok_len hok).1
    rw [Pl.prod_eq (Pl.ok_len hok).2, Pl.prodP_cons, hTP] at e
    exact e.symm
  have hrows : n * TP = db.length := by
    have : ((n * TP : Nat) : Int) = (db.length : Int) := by rw [← hnT]; simp
    omega
  have BX : Hid (∀ W, Below (w.heap.size + 1 + 1) ((w.alloc (.cells #[.slice (some ⟨g, 0, none⟩) (tb.length + 1) (tb.length + 1), .slice (some ⟨b3, 0, none⟩) db.length k3] 27)).alloc (.cells #[.slice none 0 0, .slice none 0 0] 27)) W → (W.cell? ⟨w.heap.size, 0, none⟩ = some (.slice (some ⟨g, 0, none⟩) (tb.length + 1) (tb.length + 1)) ∧ W.cell? ⟨w.heap.size, 1, none⟩ = some (.slice (some ⟨b3, 0, none⟩) db.length k3)) ∧ (W.cell? ⟨w.heap.size + 1, 0, none⟩ = some (.slice none 0 0) ∧ W.cell? ⟨w.heap.size + 1, 1, none⟩ = some (.slice none 0 0) ∧ ∀ o, W.frozen? ⟨w.heap.size + 1, o, none⟩ = false) ∧ Below w.heap.size w W) := fun W hb => boxes2 hb
  have H0 := hideP h0
  have H1 := hideP h1
  have HR := hideP hres
  have e13 : i + (m : Int) - i = (m : Int) := by omega
  clear hres
  go_enter Try.func119, Try.ntmps119
  by_cases hbig : 1000 < m
  · have hf : ¬ Pl.fitsB ((m : Int) :: tb) = true := fun h => by
      simp only [Pl.fitsB, Pl.baseB, Bool.and_eq_true, List.all_cons] at h
      have := Pl.inR_bd h.1.2.1
      omega
    have e := HR.out
    rw [if_neg hf] at e
    simp only [Prod.mk.injEq] at e
    obtain ⟨rfl, rfl, rfl⟩ := e
    have X1 := hideP (BX.out _ (Below.refl _ _))
    have hbig' : (1000 : Int) < (m : Int) := by omega
    have r0 := X1.out.2.1.1
    have r1 := X1.out.2.1.2.1
    have f2 := X1.out.2.1.2.2
    go_wp2_with fail
    refine bodyPost_ret (v := .tuple #[.agg #[.slice none 0 0, .slice none 0 0], .int .i64 6]) (by simp [results, Try.results119, go_sem, r0, r1]) rfl ⟨X1.out.2.2, _, _, rfl, Own.nil _ _, Own.nil _ _, .inl rfl⟩
  · have hbig' : decide ((1000 : Int) < (m : Int)) = false := by rw [decide_eq_false_iff_not]; omega
    have B1 : Hid (Below (w.heap.size + 1 + 1) ((w.alloc (.cells #[.slice (some ⟨g, 0, none⟩) (tb.length + 1) (tb.length + 1), .slice (some ⟨b3, 0, none⟩) db.length k3] 27)).alloc (.cells #[.slice none 0 0, .slice none 0 0] 27)) ((w.alloc (.cells #[.slice (some ⟨g, 0, none⟩) (tb.length + 1) (tb.length + 1), .slice (some ⟨b3, 0, none⟩) db.length k3] 27)).alloc (.cells #[.slice none 0 0, .slice none 0 0] 27))) := Below.refl _ _
    go_upto_region 3 with fail
    have hsW : w.heap.size + 1 + 1 ≤ ((w.alloc (.cells #[.slice (some ⟨g, 0, none⟩) (tb.length + 1) (tb.length + 1), .slice (some ⟨b3, 0, none⟩) db.length k3] 27)).alloc (.cells #[.slice none 0 0, .slice none 0 0] 27)).heap.size := by simp
    generalize ((w.alloc (.cells #[.slice (some ⟨g, 0, none⟩) (tb.length + 1) (tb.length + 1), .slice (some ⟨b3, 0, none⟩) db.length k3] 27)).alloc (.cells #[.slice none 0 0, .slice none 0 0] 27)) = W0 at *
    obtain ⟨o2, ho2⟩ : ∃ o2 : Nat, o2 = if tb.length = 0 then 0 else 1 := ⟨_, rfl⟩
    have RT : Hid (∀ W, Below w.heap.size w W → Rd W.heap.size W (.slice (some ⟨g, o2, none⟩) tb.length tb.length) tb) := fun W hb => (rd_one ho2 ((H0.out.keep hb).up hb.size))
    have HO2 := hideP ho2
    have A1 : Hid (Below W0.heap.size W0 (W0.alloc (.cells #[.int .i64 (m : Int)] 3))) := (Below.refl _ _).alloc (Nat.le_refl _) _
    have OL := hideP (owns_one W0 (m : Int) W0.heap.size (Nat.le_refl _))
    have K0 := hideP (BX.out _ B1.out)
    have RTA : Hid (Rd (W0.alloc (.cells #[.int .i64 (m : Int)] 3)).heap.size (W0.alloc (.cells #[.int .i64 (m : Int)] 3)) (.slice (some ⟨g, o2, none⟩) tb.length tb.length) tb) := RT.out _ (K0.out.2.2.trans (A1.out.mono K0.out.2.2.size))
    have KFT : Hid (∀ W v, Rd W.heap.size W v ((m : Int) :: tb) → Calls Try.prog 33 #[v] W fun e w' => e = .returned (.bool (Pl.fitsB ((m : Int) :: tb))) ∧ w' = W) := fun W v h => l1Fits_any _ v _ W (by simp; omega) h
    have cb : ∀ o, (W0.alloc o).cell? ⟨w.heap.size, 0, none⟩ = some (.slice (some ⟨g, 0, none⟩) (tb.length + 1) (tb.length + 1)) := fun o => (BX.out _ (B1.out.trans (((Below.refl _ _).alloc (Nat.le_refl _) _).mono hsW))).1.1
    clear ho2
    generalize hlbt : tb.length = lb at *
    have HLT : Hid (tb.length = lb) := hlbt
    clear hlbt
    go_cut [8] (fun s8 wy => Rd wy.heap.size wy s8 ((m : Int) :: tb) ∧ Below W0.heap.size W0 wy)
    case first =>
      clear hbig hbig'
      by_cases ht : lb = 0
      · have RZ : Hid (Rd (W0.alloc (.cells #[.int .i64 (m : Int)] 3)).heap.size (W0.alloc (.cells #[.int .i64 (m : Int)] 3)) (.slice (some ⟨g, 0, none⟩) 0 0) tb) := rd_zero _ _ _ _ _ (HLT.out.trans ht)
        have hl0 : tb.length = 0 := HLT.out.trans ht
        clear HLT HO2 RT RTA
        subst ht
        go_wp2_with (at_builtin; refine wpList_append_rd_at (base := W0.heap.size) _ rfl _ _ rfl _ _ rfl rfl _ [(m : Int)] tb OL.out RZ.out (by rw [hl0]; omega) (by simp) ?_)
        intro v' w5 ho5 hg5 _
        have B5 : Hid (Below W0.heap.size W0 w5) := A1.out.grown hg5 (by simp) (fun k hk => (OL.out.lt k hk).1)
        have O5 : Hid (w5.ownsRow W0.heap.size 3 1 v' ((m : Int) :: tb).length (((m : Int) :: tb).map (Value.int .i64))) := by
          have := ho5
          show World.ownsRow _ _ _ _ _ _ _
          rw [List.length_cons, hl0]
          exact this
        clear ho5 hg5
        go_wp2_with fail
        go_meet
        case rel => exact ⟨(own_of_any O5.out).rd, B5.out⟩
      · have RZ : Hid (Rd (W0.alloc (.cells #[.int .i64 (m : Int)] 3)).heap.size (W0.alloc (.cells #[.int .i64 (m : Int)] 3)) (.slice (some ⟨g, 1, none⟩) lb lb) tb) := by
          have := RTA.out
          rw [HO2.out, if_neg ht] at this
          exact this
        have hl0 : tb.length ≤ 2 := by rw [HLT.out]; omega
        clear HLT HO2 RT RTA
        go_wp2_with (at_builtin; refine wpList_append_rd_at (base := W0.heap.size) _ rfl _ _ rfl _ _ rfl rfl _ [(m : Int)] tb OL.out RZ.out (by omega) (by simp) ?_)
        intro v' w5 ho5 hg5 _
        have B5 : Hid (Below W0.heap.size W0 w5) := A1.out.grown hg5 (by simp) (fun k hk => (OL.out.lt k hk).1)
        have O5 : Hid (w5.ownsRow W0.heap.size 3 1 v' ((m : Int) :: tb).length (((m : Int) :: tb).map (Value.int .i64))) := by
          have := ho5
          show World.ownsRow _ _ _ _ _ _ _
          rw [List.length_cons, Nat.add_comm]
          exact this
        clear ho5 hg5
        go_wp2_with fail
        go_meet
        case rel => exact ⟨(own_of_any O5.out).rd, B5.out⟩
    case rest =>
      obtain ⟨hr5, hb5⟩ := hcut
      rename World => w5
      rename Value => s8
      have R5 := hideP hr5
      have B5 := hideP hb5
      clear hr5 hb5 cb A1 OL RTA
      have X5 := hideP (BX.out _ (B1.out.trans (B5.out.mono hsW)))
      have hs5 : w.heap.size + 1 + 1 ≤ w5.heap.size := Nat.le_trans hsW B5.out.size
      by_cases hf : Pl.fitsB ((m : Int) :: tb) = true
      · rw [hf] at KFT
        have e := HR.out
        rw [if_pos hf] at e
        simp only [Prod.mk.injEq] at e
        obtain ⟨rfl, rfl, rfl⟩ := e
        have BX5 : Hid (∀ W, Below w5.heap.size w5 W → _) := fun W hb => BX.out W ((B1.out.trans (B5.out.mono hsW)).trans (hb.mono hs5))
        clear BX X5 B1 K0 HR
        have hm1 : m ≤ 1000 := by omega
        have hin : Hid (∀ q : Nat, q < m → 0 ≤ i + (q : Int) → i + (q : Int) < (n : Int) → Pl.fitsB tb = true ∧ Pl.prodC tb = (TP : Int) ∧ ((i + (q : Int)).toNat + 1) * TP ≤ db.length) := fun q hq h0 h1 => by
          have ft : Pl.fitsB tb = true := Pl.fits_tail hf (by omega)
          refine ⟨ft, (Pl.prod_eq ft).trans hTP, ?_⟩
          rw [← hrows]
          exact Nat.mul_le_mul_right TP (by omega)
        have hout : Hid (0 < m → Pl.fitsB tb = true ∧ (Pl.prodC tb).toNat = TP) := fun hq => by
          have ft : Pl.fitsB tb = true := Pl.fits_tail hf (by omega)
          refine ⟨ft, ?_⟩
          rw [Pl.prod_eq ft, hTP]
          simp
        have KRW : Hid (∀ (q r : Nat) W, q < m → i + (q : Int) = (r : Int) → r < n → Below w.heap.size w W → Calls Try.prog 106 #[.agg #[.slice (some ⟨g, 0, none⟩) (lb + 1) (lb + 1), .slice (some ⟨b3, 0, none⟩) db.length k3], .int .i64 (i + (q : Int))] W fun e w' => ∃ u0 u1, e = .returned (.agg #[u0, u1]) ∧ Res W.heap.size w' u0 u1 tb (Pl.rowZ db TP n (i + (q : Int))) ∧ Below W.heap.size W w') := fun q r W hq hr hrn hb => by
          obtain ⟨ft, pc, hl⟩ := hin.out q hq (by omega) (by omega)
          have er : (i + (q : Int)).toNat = r := by omega
          rw [er] at hl
          have el : ((n : Int) :: tb).length = lb + 1 := by rw [List.length_cons, HLT.out]
          have := l2Row_any g 0 (lb + 1) b3 0 k3 r TP ((n : Int) :: tb) db W (by rw [el]; exact (H0.out.keep hb).up hb.size) ((H1.out.keep hb).up hb.size) (by simp) (by rw [el]; omega) hmx1 (by omega) (by omega) hk3 hk4 hall pc hl (by omega)
          rw [el] at this
          rw [hr]
          have ez : Pl.rowZ db TP n ((r : Nat) : Int) = (db.drop (r * TP)).take TP := by
            unfold Pl.rowZ
            rw [if_pos (by omega)]
            simp
          rw [ez]
          exact this
        have KWD : Hid (∀ (q : Nat) (W : World) v, q < m → ¬ (0 ≤ i + (q : Int) ∧ i + (q : Int) < (n : Int)) → Below w.heap.size w W → Rd W.heap.size W v tb → Calls Try.prog 90 #[.agg #[.slice none 0 0, .slice (some ⟨W.heap.size, 0, none⟩) 1 1], v] (W.alloc (.cells #[.int .i64 0] 3)) fun e w' => ∃ u0 u1, e = .returned (.agg #[u0, u1]) ∧ Res W.heap.size w' u0 u1 tb (Pl.rowZ db TP n (i + (q : Int))) ∧ Below W.heap.size W w') := fun q W v hq hno hb hv => by
          obtain ⟨ft, pc⟩ := hout.out (by omega)
          have A : Below W.heap.size W (W.alloc (.cells #[.int .i64 0] 3)) := (Below.refl _ _).alloc (Nat.le_refl _) _
          refine (l2Wide_any none 0 0 W.heap.size 0 1 1 v 0 tb (W.alloc (.cells #[.int .i64 0] 3)) ft (by simp) (by omega) (by simp [go_sem]) ((hv.keep A).up A.size)).mono ?_
          rintro e w' ⟨u0, u1, rfl, hr, hb'⟩
          refine ⟨u0, u1, rfl, ?_, A.trans (hb'.mono A.size)⟩
          have ez : Pl.rowZ db TP n (i + (q : Int)) = List.replicate (Pl.prodC tb).toNat 0 := by
            unfold Pl.rowZ
            rw [if_neg hno, pc]
          rw [ez]
          exact ⟨hr.1.base A.size, hr.2.1.base A.size, hr.2.2⟩
        have KST : Hid (∀ W rv rg rcap (dv : Nat → Value) (sv : Value), (0 < m → rv = some ⟨rg, 0, none⟩ ∧ rg < W.heap.size ∧ ∀ i, i < m → W.cell? ⟨rg, i * 2 + 1, none⟩ = some (dv i)) → (∀ t, t < m → Rd W.heap.size W (dv t) (Pl.rowZ db TP n (i + (t : Int)))) → Rd W.heap.size W sv tb → Calls Try.prog 75 #[sv, .slice rv m rcap] W (FPost W 0 ((m : Int) :: tb) (Pl.catZ (fun t => Pl.rowZ db TP n (i + (t : Int))) m))) := fun W rv rg rcap dv sv hrv hrd hsv => by
          refine l2Stack_any rv rg m rcap dv (fun t => Pl.rowZ db TP n (i + (t : Int))) sv tb W (fun h => (hrv h).1) hm1 (fun h => (hrv h).2.1) (fun i hi => (hrv (by omega)).2.2 i hi) hrd hsv (fun j hj => ?_) (by rw [HLT.out]; omega) hf
          rw [Pl.catZ_len (fun t => Pl.rowZ_len db TP n _ (by omega)) j]
          have h2 : j * TP ≤ m * TP := Nat.mul_le_mul_right TP hj
          have h3 : m * TP ≤ 1000 := by
            have := hf
            rw [Pl.fits_eq] at this
            simp only [Bool.and_eq_true, decide_eq_true_eq] at this
            have h4 := this.2
            rw [Pl.prodP_cons, hTP] at h4
            have : ((m * TP : Nat) : Int) = (m : Int) * (TP : Int) := by simp
            omega
          omega
        have RTW : Hid (∀ W, Below w5.heap.size w5 W → Rd W.heap.size W (.slice (some ⟨g, o2, none⟩) lb lb) tb) := fun W hb => RT.out W (BX5.out W hb).2.2
        have CN : Hid (∀ W, Below w5.heap.size w5 W → W.cell? ⟨g, 0, none⟩ = some (.int .i64 (n : Int))) := fun W hb => by
          have hh := H0.out
          rw [← HLT.out] at hh
          obtain ⟨k1, k2⟩ := rd_head hh
          exact ((BX5.out W hb).2.2.cell (p := ⟨g, 0, none⟩) k1).trans k2
        clear RT hf hrows hnT hTP hbb hall hok hmx1 hin hout H0 H1 h1 hn1
        go_wp2_with (go_at_call 33; refine (KFT.out _ _ R5.out).mono ?_; rintro e w5 ⟨rfl, rfl⟩)
        clear KFT R5 B5
        have hsz5 := hs5
        go_loopw [9, 10] (fun rv k wr => ∃ q : Nat, q ≤ m ∧ k = .int .i64 (i + (q : Int)) ∧ ∃ xs dv, Hid (Rs w5 rv q xs dv (fun t => Pl.rowZ db TP n (i + (t : Int))) wr)) (fun _ k _ => (i + (m : Int) - intOf k).toNat)
        case atStart => exact ⟨0, Nat.zero_le _, by simp, _, _, Rs.start w5 _⟩
        case round =>
          obtain ⟨q, hq, rfl, xs, dvv, hR⟩ := hrel
          have BR := hideP (BX5.out _ hR.out.bel).2.2
          obtain ⟨rao, rg, rcap, erv, hform⟩ := rows_form hR.out.row
          subst erv
          have c10 := (BX5.out _ hR.out.bel).1.1
          have c11 := (BX5.out _ hR.out.bel).1.2
          have cz := CN.out _ hR.out.bel
          have HB := hideP hR.out
          have hsr := hR.out.bel.size
          by_cases hlt : q < m
          · have hlt' : i + (q : Int) < i + (m : Int) := by omega
            clear hform
            by_cases hin : 0 ≤ i + (q : Int) ∧ i + (q : Int) < (n : Int)
            · obtain ⟨hin0, hin1⟩ := hin
              have KR := hideP (fun W hb => KRW.out q (i + (q : Int)).toNat W hlt (by omega) (by omega) hb)
              go_wp2_with fail
              refine (KR.out _ BR.out).mono ?_
              rintro e w3 ⟨u0, u1, rfl, hres, hb3⟩
              obtain ⟨rz, hrz⟩ : ∃ rz, Pl.rowZ db TP n (i + (q : Int)) = rz := ⟨_, rfl⟩
              rw [hrz] at hres
              have HRZ := hideP hrz
              clear hrz
              have R3 := hideP (hR.out.keep hb3)
              have hs3 := R3.out.bel.size
              have OFF : Hid (∀ g', (Value.slice rao q rcap).ownBlock = some g' → Off g' u1 rz) := fun g' hg => own_ne_lo hres.2.1 (HB.out.row.lt g' hg).2
              have OU : Hid (Own w5.heap.size w3 u1 rz) := hres.2.1.base HB.out.bel.size
              obtain ⟨x0, y0, x1, y1, e0, e1⟩ := hres.forms
              subst e0
              subst e1
              clear hres hb3 c10 c11 cz
              have UB : Hid (q + 1 ≤ 16777216) := by show _ ≤ _; omega
              go_wp2_with (at_builtin; refine wpList_append66 (base := w5.heap.size) w3 rfl (.tmp 45) (.tmp 49) rfl (.slice rao q rcap) (.slice x0 tb.length y0) (.slice x1 rz.length y1) rfl w3.heap.size rfl rfl q xs R3.out.row rfl rfl UB.out hs3 ?_)
              intro v' w9 ho9 hg9 hat9
              have RA := hideP (R3.out.app (zz := (fun t => Pl.rowZ db TP n (i + (t : Int)))) (by show Own _ _ _ (Pl.rowZ db TP n (i + (q : Int))); rw [HRZ.out]; exact OU.out) (by show ∀ g', _ → Off g' _ (Pl.rowZ db TP n (i + (q : Int))); rw [HRZ.out]; exact OFF.out) ho9 hg9 hat9)
              clear ho9 hg9 hat9
              go_wp2_with fail
              go_roundw
              case rel => exact ⟨q + 1, by omega, by go_num, _, _, RA⟩
              case measure => simp [intOf]; omega
            · have KW := hideP (fun W v hb hv => KWD.out q W v hlt hin hb hv)
              have AL : ∀ o, (wr.alloc o).cell? ⟨w.heap.size, 0, none⟩ = some (.slice (some ⟨g, 0, none⟩) (lb + 1) (lb + 1)) := fun o => (BX5.out _ (hR.out.bel.trans (((Below.refl _ _).alloc (Nat.le_refl _) _).mono hsr))).1.1
              have RTZ := hideP (RTW.out _ hR.out.bel)
              have TST : (decide (0 ≤ i + (q : Int)) && decide (i + (q : Int) < (n : Int))) = false := by
                simp only [Bool.and_eq_false_iff, decide_eq_false_iff_not]
                omega
              clear RTW
              by_cases hin0 : 0 ≤ i + (q : Int)
              · have hin1 : decide (i + (q : Int) < (n : Int)) = false := by rw [decide_eq_false_iff_not]; omega
                clear TST
                go_wp2_with (refine wpList_lo1 _ rfl (.tmp 55) (.const (.int .i64 1)) g lb o2 HO2.out rfl rfl rfl ?_)
                refine (KW.out _ _ BR.out RTZ.out).mono ?_
                rintro e w3 ⟨u0, u1, rfl, hres, hb3⟩
                obtain ⟨rz, hrz⟩ : ∃ rz, Pl.rowZ db TP n (i + (q : Int)) = rz := ⟨_, rfl⟩
                rw [hrz] at hres
                have HRZ := hideP hrz
                clear hrz
                have R3 := hideP (hR.out.keep hb3)
                have hs3 := R3.out.bel.size
                have OFF : Hid (∀ g', (Value.slice rao q rcap).ownBlock = some g' → Off g' u1 rz) := fun g' hg => own_ne_lo hres.2.1 (HB.out.row.lt g' hg).2
                have OU : Hid (Own w5.heap.size w3 u1 rz) := hres.2.1.base HB.out.bel.size
                obtain ⟨x0, y0, x1, y1, e0, e1⟩ := hres.forms
                subst e0
                subst e1
                clear hres hb3 c10 c11 cz
                have UB : Hid (q + 1 ≤ 16777216) := by show _ ≤ _; omega
                go_wp2_with (at_builtin; refine wpList_append66 (base := w5.heap.size) w3 rfl (.tmp 51) (.tmp 58) rfl (.slice rao q rcap) (.slice x0 tb.length y0) (.slice x1 rz.length y1) rfl w3.heap.size rfl rfl q xs R3.out.row rfl rfl UB.out hs3 ?_)
                intro v' w9 ho9 hg9 hat9
                have RA := hideP (R3.out.app (zz := (fun t => Pl.rowZ db TP n (i + (t : Int)))) (by show Own _ _ _ (Pl.rowZ db TP n (i + (q : Int))); rw [HRZ.out]; exact OU.out) (by show ∀ g', _ → Off g' _ (Pl.rowZ db TP n (i + (q : Int))); rw [HRZ.out]; exact OFF.out) ho9 hg9 hat9)
                clear ho9 hg9 hat9
                go_wp2_with fail
                go_roundw
                case rel => exact ⟨q + 1, by omega, by go_num, _, _, RA⟩
                case measure => simp [intOf]; omega
              · have hin1 : decide (0 ≤ i + (q : Int)) = false := by rw [decide_eq_false_iff_not]; omega
                clear TST hin0
                go_wp2_with (refine wpList_lo1 _ rfl (.tmp 55) (.const (.int .i64 1)) g lb o2 HO2.out rfl rfl rfl ?_)
                refine (KW.out _ _ BR.out RTZ.out).mono ?_
                rintro e w3 ⟨u0, u1, rfl, hres, hb3⟩
                obtain ⟨rz, hrz⟩ : ∃ rz, Pl.rowZ db TP n (i + (q : Int)) = rz := ⟨_, rfl⟩
                rw [hrz] at hres
                have HRZ := hideP hrz
                clear hrz
                have R3 := hideP (hR.out.keep hb3)
                have hs3 := R3.out.bel.size
                have OFF : Hid (∀ g', (Value.slice rao q rcap).ownBlock = some g' → Off g' u1 rz) := fun g' hg => own_ne_lo hres.2.1 (HB.out.row.lt g' hg).2
                have OU : Hid (Own w5.heap.size w3 u1 rz) := hres.2.1.base HB.out.bel.size
                obtain ⟨x0, y0, x1, y1, e0, e1⟩ := hres.forms
                subst e0
                subst e1
                clear hres hb3 c10 c11 cz
                have UB : Hid (q + 1 ≤ 16777216) := by show _ ≤ _; omega
                go_wp2_with (at_builtin; refine wpList_append66 (base := w5.heap.size) w3 rfl (.tmp 51) (.tmp 58) rfl (.slice rao q rcap) (.slice x0 tb.length y0) (.slice x1 rz.length y1) rfl w3.heap.size rfl rfl q xs R3.out.row rfl rfl UB.out hs3 ?_)
                intro v' w9 ho9 hg9 hat9
                have RA := hideP (R3.out.app (zz := (fun t => Pl.rowZ db TP n (i + (t : Int)))) (by show Own _ _ _ (Pl.rowZ db TP n (i + (q : Int))); rw [HRZ.out]; exact OU.out) (by show ∀ g', _ → Off g' _ (Pl.rowZ db TP n (i + (q : Int))); rw [HRZ.out]; exact OFF.out) ho9 hg9 hat9)
                clear ho9 hg9 hat9
                go_wp2_with fail
                go_roundw
                case rel => exact ⟨q + 1, by omega, by go_num, _, _, RA⟩
                case measure => simp [intOf]; omega
          · have qm : q = m := by omega
            subst qm
            have hgt : decide (i + (q : Int) < i + (q : Int)) = false := by rw [decide_eq_false_iff_not]; omega
            have HF2 : Hid (0 < q → rao = some ⟨rg, 0, none⟩ ∧ rg < wr.heap.size ∧ ∀ i, i < q → wr.cell? ⟨rg, i * 2 + 1, none⟩ = some (dvv i)) := fun h => ⟨(hform h).1, (hform h).2.1, fun i hi => ((hform h).2.2 i hi).trans (hR.out.cell i hi)⟩
            have RSX : Hid (∀ t, t < q → Rd wr.heap.size wr (dvv t) (Pl.rowZ db TP n (i + (t : Int)))) := fun t ht => (hR.out.own t ht).rd
            have BRW := hideP hR.out.bel
            have RTZ := hideP (RTW.out _ hR.out.bel)
            clear hform
            have HL1 : Hid (((q : Int) :: tb).length = lb + 1) := by show _ = _; rw [List.length_cons, HLT.out]
            go_wp2_with (refine wpList_lo1 _ rfl (.tmp 61) (.const (.int .i64 1)) g lb o2 HO2.out rfl rfl rfl ?_)
            refine (KST.out wr _ rg _ dvv _ HF2.out RSX.out RTZ.out).mono ?_
            rintro e w9 ⟨hb9, u0, u1, rfl, hres⟩
            have X9 := hideP (BX5.out _ (BRW.out.trans (hb9.mono BRW.out.size)))
            have R9 := hideP hres
            have hs9 := hb9.size
            have hsr := BRW.out.size
            obtain ⟨x0, y0, x1, y1, e0, e1⟩ := hres.forms
            rw [HL1.out] at e0
            subst e0
            subst e1
            clear hb9 hres c10 c11 cz
            have r0 := X9.out.2.1.1
            have r1 := X9.out.2.1.2.1
            have f2 := X9.out.2.1.2.2
            go_wp2_with fail
            refine bodyPost_ret (v := .tuple #[.agg #[.slice x0 (lb + 1) y0, .slice x1 (Pl.catZ (fun t => Pl.rowZ db TP n (i + (t : Int))) q).length y1], .int .i64 0]) (by simp [results, Try.results119, go_sem, r0, r1]) rfl ⟨(X9.out.2.2.setCell (by simp) _).setCell (by simp) _, _, _, rfl, ?_, ?_, R9.out.2.2⟩
            · exact Own.base (Own.store (Own.store R9.out.1 (by omega) _) (by omega) _) (by omega)
            · exact Own.base (Own.store (Own.store R9.out.2.1 (by omega) _) (by omega) _) (by omega)
      · have hf' : Pl.fitsB ((m : Int) :: tb) = false := by simpa using hf
        rw [hf'] at KFT
        have e := HR.out
        rw [if_neg hf] at e
        simp only [Prod.mk.injEq] at e
        obtain ⟨rfl, rfl, rfl⟩ := e
        clear hf hf' HR RT HO2 BX K0 B1 hrows hnT
        have r0 := X5.out.2.1.1
        have r1 := X5.out.2.1.2.1
        have f2 := X5.out.2.1.2.2
        go_wp2_with (go_at_call 33; refine (KFT.out _ _ R5.out).mono ?_; rintro e w5 ⟨rfl, rfl⟩)
        refine bodyPost_ret (v := .tuple #[.agg #[.slice none 0 0, .slice none 0 0], .int .i64 6]) (by simp [results, Try.results119, go_sem, r0, r1]) rfl ⟨(X5.out.2.2.setCell (by simp) _).setCell (by simp) _, _, _, rfl, Own.nil _ _, Own.nil _ _, .inl rfl⟩

end Go.Proofs.Ytmobjomebmipdaa
