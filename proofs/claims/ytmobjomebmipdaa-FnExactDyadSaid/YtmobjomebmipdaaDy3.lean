import Derived.Test.YtmobjomebmipdaaFold
import Derived.Test.YtmobjomebmipdaaRow
import Derived.Test.YtmobjomebmipdaaPlain6
import Derived.Test.YtmobjomebmipdaaTwoR
import Derived.Test.YtmobjomebmipdaaFirst2
import Derived.Deep.DeepCutAuto
namespace Go.Proofs.Ytmobjomebmipdaa
open Go.RowKit
set_option linter.unusedVariables false

namespace Pl
def inB (n x : Int) : Bool := decide (0 ≤ x ∧ x < n)
/-- rows of one array at places that another one names -/
def flat (db : List Int) (s : Nat) (xs : List Int) : List Int := xs.flatMap (fun x => rowAt db s x.toNat)
def fromM (sa da sb db : List Int) : Int × List Int × List Int :=
  if sb.length = 0 then (2, [], [])
  else if fitsB (sa ++ sb.tail) = true then (if da.all (inB (sb.getD 0 0)) = true then (0, sa ++ sb.tail, flat db (prodC sb.tail).toNat da) else (4, [], []))
  else (6, [], [])
theorem flat_snoc (db : List Int) (s : Nat) (xs : List Int) (x : Int) : flat db s (xs ++ [x]) = flat db s xs ++ rowAt db s x.toNat := by simp [flat]
theorem flat_len (db : List Int) (s : Nat) (xs : List Int) : (flat db s xs).length ≤ xs.length * s := by
  induction xs with
  | nil => simp [flat]
  | cons x l ih =>
    have e : flat db s (x :: l) = rowAt db s x.toNat ++ flat db s l := by simp [flat]
    have h : (rowAt db s x.toNat).length ≤ s := by simp [rowAt]; omega
    rw [e, List.length_append, List.length_cons, Nat.succ_mul]
    omega
end Pl

/-- s[1:] of m + 1 -/
theorem exec_lo1 {o : Oper} {a : Act} (x y : Operand) (g m o2 : Nat) (h : o2 = if m = 0 then 0 else 1) (ho : o.op = Op.slice 22 x (some y) none none) (hx : a.eval x = .slice (some ⟨g, 0, none⟩) (m + 1) (m + 1)) (hy : a.eval y = .int .i64 1) (w : World) :
    (execOp a.eval o).run Try.prog w = .ok (.value (.slice (some ⟨g, o2, none⟩) m m)) w := by
  have e : (Instr.sliceAt 22 (.slice (some ⟨g, 0, none⟩) (m + 1) (m + 1)) (some (.int .i64 ((1 : Nat) : Int))) none none).run Try.prog w = .ok (.slice (some ⟨g, o2, none⟩) m m) w := by
    rw [run_sliceAt_slice _ _ _ _ _ _ und22, run_slice_l _ _ _ _ _ und22 _ _ (by omega) (by omega), sizeOf3]
    subst h
    by_cases hm : m = 0
    · subst hm
      simp [Result.andThen, sliced]
    · have hne : ¬ m + 1 = 1 := by omega
      simp [Result.andThen, sliced, Addr.add, hm]
  have e' : (Instr.sliceAt 22 (.slice (some ⟨g, 0, none⟩) (m + 1) (m + 1)) (some (.int .i64 1)) none none).run Try.prog w = .ok (.slice (some ⟨g, o2, none⟩) m m) w := e
  simp [execOp, ho, hx, hy, e', Result.andThen]

/-- a shape behind its first length -/
theorem rd_one {B b2 o2 : Nat} {w : World} {n : Int} {tb : List Int} (ho2 : o2 = if tb.length = 0 then 0 else 1) (h2 : Rd B w (.slice (some ⟨b2, 0, none⟩) (tb.length + 1) (tb.length + 1)) (n :: tb)) : Rd B w (.slice (some ⟨b2, o2, none⟩) tb.length tb.length) tb := by
  by_cases ht : tb.length = 0
  · rw [ht]
    exact rd_zero _ _ _ _ _ ht
  · rw [if_neg ht] at ho2
    subst ho2
    have e : (n :: tb).length = tb.length + 1 := by simp
    have h := h2
    rw [← e] at h
    have := h.sub 1 (tb.length + 1) (by omega) (by simp) tb.length
    simpa using this
theorem rd_head {B b2 : Nat} {w : World} {n : Int} {tb : List Int} (h2 : Rd B w (.slice (some ⟨b2, 0, none⟩) (tb.length + 1) (tb.length + 1)) (n :: tb)) : b2 < B ∧ w.cell? ⟨b2, 0, none⟩ = some (.int .i64 n) := by
  have e : (n :: tb).length = tb.length + 1 := by simp
  have h := h2
  rw [← e] at h
  have := rd_cell h (i := 0) (by simp)
  simpa using this

set_option maxRecDepth 100000 in
set_option maxHeartbeats 8000000 in
/-- impl.from of valid arrays, the right one with axes -/
theorem from_core (b0 b1 b2 b3 : Nat) (sa da tb db : List Int) (n : Nat) (w : World)
    (h0 : Rd w.heap.size w (.slice (some ⟨b0, 0, none⟩) sa.length sa.length) sa) (h1 : Rd w.heap.size w (.slice (some ⟨b1, 0, none⟩) da.length da.length) da) (h2 : Rd w.heap.size w (.slice (some ⟨b2, 0, none⟩) (tb.length + 1) (tb.length + 1)) ((n : Int) :: tb)) (h3 : Rd w.heap.size w (.slice (some ⟨b3, 0, none⟩) db.length db.length) db)
    (oka : Pl.okB sa da = true) (okb : Pl.okB ((n : Int) :: tb) db = true)
    (c : Int) (S D : List Int) (hres : (if Pl.fitsB (sa ++ tb) = true then (if da.all (Pl.inB n) = true then (0, sa ++ tb, Pl.flat db (Pl.prodC tb).toNat da) else (4, [], [])) else (6, [], [])) = (c, S, D)) :
    Calls Try.prog 125 #[.agg #[.slice (some ⟨b0, 0, none⟩) sa.length sa.length, .slice (some ⟨b1, 0, none⟩) da.length da.length], .agg #[.slice (some ⟨b2, 0, none⟩) (tb.length + 1) (tb.length + 1), .slice (some ⟨b3, 0, none⟩) db.length db.length]] w (KPost w c S D) := by
  obtain ⟨i0, hi, hz0, hz1, hz2⟩ := info_parts Try.info3
  have HI := hideP (And.intro hi (And.intro hz0 (And.intro hz1 hz2)))
  clear hi hz0 hz1 hz2
  have m0 := Pl.ok_max oka
  have m2 := Pl.ok_max okb
  have hsa := m0.1
  have hld := m0.2
  have hle := m2.2
  have htb : tb.length ≤ 2 := by have := m2.1; simp at this; omega
  have W0 := hideP (wid_new w h0 h1 h2 h3 27 27 27)
  have KB : Hid (∀ w', Calls Try.prog 91 #[.agg #[.slice (some ⟨b2, 0, none⟩) (tb.length + 1) (tb.length + 1), .slice (some ⟨b3, 0, none⟩) db.length db.length]] w' fun e w'' => e = .returned (.bool false) ∧ Below w'.heap.size w' w'') := fun w' => by
    have := isScalar_any _ (.slice (some ⟨b3, 0, none⟩) db.length db.length) ((n : Int) :: tb) _ w' w h2
    rw [decide_eq_false (by simp)] at this
    exact this
  obtain ⟨o2, ho2⟩ : ∃ o2 : Nat, o2 = if tb.length = 0 then 0 else 1 := ⟨_, rfl⟩
  have HO2 := hideP ho2
  have H2 := hideP (rd_one ho2 h2)
  have CB := hideP (rd_head h2)
  have H0 := hideP h0
  have H1 := hideP h1
  have H3 := hideP h3
  have hbb : Pl.baseB tb = true := by
    have := (Pl.ok_len okb).2
    simp only [Pl.fitsB, Bool.and_eq_true] at this
    exact Pl.base_tail this.1
  have KT : Hid (∀ w' v, Rd w'.heap.size w' v tb → Calls Try.prog 37 #[v] w' fun e w'' => e = .returned (.int .i64 (Pl.prodP tb)) ∧ w'' = w') := fun w' v h => cellCount_any _ v tb w' hbb h
  have hpT := (Pl.prod_two tb hbb).1
  have hn1 : n ≤ 1000 := by
    have := (Pl.ok_len okb).2
    simp only [Pl.fitsB, Pl.baseB, Bool.and_eq_true, List.all_cons] at this
    have := Pl.inR_bd this.1.2.1
    omega
  have ROWS : Hid (1 ≤ n → ∃ s : Nat, Pl.prodC tb = s ∧ Pl.prodP tb = s ∧ db.length = n * s) := fun hn => by
    obtain ⟨hft, n', s, e1, e2, _, _, e3⟩ := Pl.ok_rows okb (by simp) (by show ¬ (n : Int) = 0; omega)
    have en : n' = n := by
      have : (n : Int) = n' := e1
      omega
    exact ⟨s, e2, (Pl.prod_eq hft).symm.trans e2, by rw [e3, en]⟩
  have HR := hideP hres
  obtain ⟨sh, hsh⟩ : ∃ sh, sa ++ tb = sh := ⟨_, rfl⟩
  have hlh : sh.length ≤ 5 := by rw [← hsh, List.length_append]; omega
  have HSH := hideP hsh
  have A3 : Hid (∀ (W : World) o, Below W.heap.size W (W.alloc o)) := fun W o => (Below.refl _ _).alloc (Nat.le_refl _) _
  clear h0 h1 h2 h3 oka okb hres hsh m0 m2 ho2 hbb
  go_enter Try.func125, Try.ntmps125
  go_wp2_with fail
  refine (KB.out _).mono ?_
  rintro e w1 ⟨rfl, hb1⟩
  have W1 := hideP (W0.out.keep hb1)
  clear hb1 W0 KB
  have PX : Hid (∀ W, Below w1.heap.size w1 W → (W.cell? ⟨w.heap.size, 0, none⟩ = some (.slice (some ⟨b0, 0, none⟩) sa.length sa.length) ∧ W.cell? ⟨w.heap.size, 1, none⟩ = some (.slice (some ⟨b1, 0, none⟩) da.length da.length) ∧ W.cell? ⟨w.heap.size + 1, 0, none⟩ = some (.slice (some ⟨b2, 0, none⟩) (tb.length + 1) (tb.length + 1)) ∧ W.cell? ⟨w.heap.size + 1, 1, none⟩ = some (.slice (some ⟨b3, 0, none⟩) db.length db.length)) ∧
      (W.cell? ⟨w.heap.size + 1 + 1, 0, none⟩ = some (.slice none 0 0) ∧ W.cell? ⟨w.heap.size + 1 + 1, 1, none⟩ = some (.slice none 0 0) ∧ ∀ o, W.frozen? ⟨w.heap.size + 1 + 1, o, none⟩ = false) ∧ w.heap.size + 1 + 1 < W.heap.size ∧ Below w.heap.size w W) := fun W hb => by
    obtain ⟨k1, k2, k3, k4, _⟩ := W1.out.keep hb
    exact ⟨k3, k4, by omega, k1⟩
  have RV : Hid (∀ W, Below w1.heap.size w1 W → Rd W.heap.size W (.slice (some ⟨b0, 0, none⟩) sa.length sa.length) sa ∧ Rd W.heap.size W (.slice (some ⟨b2, o2, none⟩) tb.length tb.length) tb) := fun W hb => by
    have k := (PX.out W hb).2.2.2
    exact ⟨(H0.out.keep k).up k.size, (H2.out.keep k).up k.size⟩
  go_wp2_with (go_at_call 83; refine (refuse_no _ _).mono ?_; rintro e w1 ⟨rfl, rfl⟩)
  have DR := hideP (show Below w1.heap.size w1 w1.drew from (Below.refl _ _).drew)
  refine wp_region_held (S := fun w' => Below w1.heap.size w1 w') (by kernel_rfl) ?_
  change wpAnyH _ _ _ _ _ _ _ _ (World.drew _)
  generalize World.drew w1 = wd at DR ⊢
  refine wpAnyH_take (i := 0) (v := .pointer (some ⟨w.heap.size, 0, none⟩)) rfl (by kernel_rfl) (by kernel_rfl) (by kernel_rfl) (fun _ _ _ h => h) (Or.inl ⟨by rfl, ?_⟩) DR.out ?_
  · intro w' hS
    clear hS
    go_simp
  refine wpAnyH_take (i := 1) (v := .slice (some ⟨b0, 0, none⟩) sa.length sa.length) rfl (by kernel_rfl) (by kernel_rfl) (by kernel_rfl) (fun _ _ _ h => h) (Or.inl ⟨by rfl, ?_⟩) DR.out ?_
  · intro w' hS
    have := (PX.out w' hS).1.1
    clear hS
    go_simp
  refine wpAnyH_take (i := 2) (v := .pointer (some ⟨w.heap.size + 1, 0, none⟩)) rfl (by kernel_rfl) (by kernel_rfl) (by kernel_rfl) (fun _ _ _ h => h) (Or.inl ⟨by rfl, ?_⟩) DR.out ?_
  · intro w' hS
    clear hS
    go_simp
  refine wpAnyH_take (i := 3) (v := .slice (some ⟨b2, 0, none⟩) (tb.length + 1) (tb.length + 1)) rfl (by kernel_rfl) (by kernel_rfl) (by kernel_rfl) (fun _ _ _ h => h) (Or.inl ⟨by rfl, ?_⟩) DR.out ?_
  · intro w' hS
    have := (PX.out w' hS).1.2.2.1
    clear hS
    go_simp
  refine wpAnyH_take (i := 4) (v := .slice (some ⟨b2, o2, none⟩) tb.length tb.length) rfl (by kernel_rfl) (by kernel_rfl) (by kernel_rfl) (fun _ _ _ h => h) (Or.inl ⟨by rfl, fun w' _ => exec_lo1 (.tmp 16) (.const (.int .i64 1)) b2 tb.length o2 HO2.out (by kernel_rfl) (by kernel_rfl) (by kernel_rfl) w'⟩) DR.out ?_
  refine wpAnyH_ready (rs := [5]) (by kernel_rfl) (by simp) ?_
  refine AllReadyH.cons rfl (fun K hK => ?_) AllReadyH.nil
  go_simp
  have DA := hideP (DR.out.trans ((A3.out wd (.cells #[.slice (some ⟨b0, 0, none⟩) sa.length sa.length, .slice (some ⟨b2, o2, none⟩) tb.length tb.length] 22)).mono DR.out.size))
  refine hK.out _ _ DA.out (fun _ => ?_)
  clear hK
  refine wpAnyH_ready (rs := [6]) (by kernel_rfl) (by simp) ?_
  refine AllReadyH.cons rfl (fun K hK => ?_) AllReadyH.nil
  go_simp
  have J := joined2 wd.heap.size (.slice (some ⟨b0, 0, none⟩) sa.length sa.length) (.slice (some ⟨b2, o2, none⟩) tb.length tb.length) sa tb _ (by omega) (by omega) (by simp) (by simp [go_sem]) (by simp [go_sem]) (RV.out _ DA.out).1 (RV.out _ DA.out).2
  rw [HSH.out] at J
  refine J.mono ?_
  clear J
  rintro e w3 ⟨sv, rfl, hv, hb3⟩
  have B3 := hideP (DA.out.trans (hb3.mono DA.out.size))
  have hs3 : w1.heap.size ≤ w3.heap.size := B3.out.size
  have HV := hideP (hv.base (show w1.heap.size ≤ _ from DA.out.size))
  obtain ⟨zs, ys, ez⟩ := hv.form
  subst ez
  clear hb3 hv DA DR
  refine hK.out _ _ B3.out (fun _ => ?_)
  clear hK
  refine wpAnyH_ready (rs := [7]) (by kernel_rfl) (by simp) ?_
  refine AllReadyH.cons rfl (fun K hK => ?_) AllReadyH.nil
  go_simp
  refine hK.out _ _ B3.out (fun _ => ?_)
  clear hK
  refine wpAnyH_done (by kernel_rfl) ?_ _
  by_cases hf : Pl.fitsB sh = true
  · have KF : Hid (∀ w', Rd w'.heap.size w' (.slice zs sh.length ys) sh → Calls Try.prog 131 #[.slice zs sh.length ys] w' fun e w'' => e = .returned (.tuple #[]) ∧ w'' = w') := fun w' h => (needFit_any _ _ sh w' (by omega) h).mono (by
      rintro e w'' ⟨rfl, ⟨_, rfl⟩ | ⟨g, _⟩⟩
      · exact ⟨rfl, rfl⟩
      · rw [hf] at g; cases g)
    have KC : Hid (∀ w', Rd w'.heap.size w' (.slice zs sh.length ys) sh → Calls Try.prog 37 #[.slice zs sh.length ys] w' fun e w'' => e = .returned (.int .i64 (Pl.prodC sh)) ∧ w'' = w') := fun w' h => cellCount_fits _ _ sh w' hf h
    have hp : 0 ≤ Pl.prodC sh ∧ Pl.prodC sh ≤ 1001 := Pl.prodC_bd sh (by simp only [Pl.fitsB, Pl.baseB, Bool.and_eq_true] at hf; exact hf.1.2)
    obtain ⟨cp, hcp⟩ : ∃ cp : Nat, Pl.prodC sh = cp := ⟨(Pl.prodC sh).toNat, by omega⟩
    rw [hcp] at KC hp
    have e := HR.out
    rw [HSH.out, if_pos hf] at e
    obtain ⟨sN, hsN⟩ : ∃ sN, (Pl.prodC tb).toNat = sN := ⟨_, rfl⟩
    have HSN := hideP hsN
    rw [hsN] at e
    have PE := hideP e
    have RD3 := hideP HV.out.rd
    have Z3 := hideP (PX.out w3 B3.out)
    have RX := hideP (RV.out w3 B3.out).2
    have cb0 := Z3.out.1.2.2.1
    clear e HR hf hcp RV H0 H2 hsN
    generalize hlbt : tb.length = lb at *
    have HLT : Hid (tb.length = lb) := hlbt
    clear hlbt
    go_upto_region 4 with (go_at_call 131; refine (KF.out _ RD3.out).mono ?_; rintro e w3 ⟨rfl, rfl⟩)
    go_cut [6] (fun s6 wy => s6 = .int .i64 (Pl.prodP tb) ∧ wy = w3)
    case first =>
      by_cases ht : lb = 0
      · have RZ : Hid (Rd w3.heap.size w3 (.slice (some ⟨b2, 0, none⟩) 0 0) tb) := rd_zero _ _ _ _ _ (HLT.out.trans ht)
        clear HLT HO2 RX Z3 PX
        subst ht
        go_wp2_with (go_at_call 37; refine (KT.out _ _ RZ.out).mono ?_; rintro e w3 ⟨rfl, rfl⟩)
        go_meet
        case rel => exact ⟨rfl, rfl⟩
      · have RZ : Hid (Rd w3.heap.size w3 (.slice (some ⟨b2, 1, none⟩) lb lb) tb) := by
          have := RX.out
          rw [HO2.out, if_neg ht] at this
          exact this
        go_wp2_with (go_at_call 37; refine (KT.out _ _ RZ.out).mono ?_; rintro e w3 ⟨rfl, rfl⟩)
        go_meet
        case rel => exact ⟨rfl, rfl⟩
    case rest =>
      obtain ⟨rfl, rfl⟩ := hcut
      rename World => w3
      clear cb0 RX KT HO2 HLT KF
      generalize Pl.prodP tb = TP at *
      have ca1 := Z3.out.1.2.1
      go_wp2_with (first
        | (go_at_call 37; refine (KC.out _ RD3.out).mono ?_; rintro e w3 ⟨rfl, rfl⟩)
        | (at_make; refine wpList_make_own _ rfl _ _ 22 rfl w3.heap.size 3 i0 (.int .i64 0) 1 Try.underlying22 HI.out.1 HI.out.2.1 HI.out.2.2.1 _ _ _ cp rfl rfl rfl ?b2 ?b3 ?b4 ?_))
      case b2 => rw [HI.out.2.2.2]; omega
      case b3 => unfold maxLen; omega
      case b4 => exact Nat.le_refl _
      intro w4 hown hgrow
      have B4 : Hid (Below w3.heap.size w3 w4) := (Below.refl _ _).grown hgrow (Nat.le_refl _) (by intro k h; cases h)
      have HO4 := hideP hown
      clear hown hgrow ca1 Z3
      have ca1 := (PX.out w4 (B3.out.trans (B4.out.mono hs3))).1.2.1
      go_wp2_with fail
      clear ca1
      go_loopw [7, 9, 32] (fun s7 _ s32 wr => ∃ k : Nat, k ≤ da.length ∧ s32 = .int .i64 k ∧ Hid ((da.take k).all (Pl.inB n) = true) ∧ Hid (wr.ownsRow w3.heap.size 3 1 s7 (Pl.flat db sN (da.take k)).length ((Pl.flat db sN (da.take k)).map (Value.int .i64))) ∧ Hid (Below w3.heap.size w3 wr)) (fun _ _ s32 _ => da.length - (intOf s32).toNat)
      case atStart =>
        refine ⟨0, Nat.zero_le _, rfl, (show (da.take 0).all (Pl.inB n) = true from rfl), ?_, B4⟩
        show World.ownsRow _ _ _ _ _ _ _
        exact HO4.out
      case round =>
        clear HO4 B4
        obtain ⟨k, hk, rfl, hz, ho, hbel⟩ := hrel
        have BR : Hid (Below w1.heap.size w1 wr) := B3.out.trans (hbel.out.mono hs3)
        have ZR := hideP (PX.out wr BR.out)
        have hsr := hbel.out.size
        obtain ⟨xo, yo, eo⟩ := owns_form ho.out
        subst eo
        by_cases hlt : k < da.length
        · have hlt' : (k : Int) < (da.length : Int) := by omega
          have hck : wr.cell? ⟨b1, k, none⟩ = some (.int .i64 (da.getD k 0)) := by
            have := rd_cell H1.out hlt
            rw [Nat.zero_add] at this
            exact (ZR.out.2.2.2.cell (p := ⟨b1, k, none⟩) this.1).trans this.2
          have cb : wr.cell? ⟨b2, 0, none⟩ = some (.int .i64 (n : Int)) := (ZR.out.2.2.2.cell (p := ⟨b2, 0, none⟩) CB.out.1).trans CB.out.2
          have cb0 := ZR.out.1.2.2.1
          have cb1 := ZR.out.1.2.2.2
          have TS := hideP (Pl.take_snoc da k hlt)
          have AS := hideP (Pl.all_snoc da (Pl.inB n) k hlt)
          have AF : Hid (Pl.inB n (da.getD k 0) = false → da.all (Pl.inB n) = false) := fun h => Pl.all_false hlt h
          generalize da.getD k 0 = x at *
          by_cases hin : 0 ≤ x ∧ x < n
          · obtain ⟨q, rfl⟩ := Int.eq_ofNat_of_zero_le hin.1
            have hqn : q < n := by omega
            obtain ⟨s, hs1, hs2, hs3'⟩ := ROWS.out (by omega)
            have es : s = sN := by rw [← HSN.out, hs1]; simp
            subst es
            subst hs2
            have hq1 : (q + 1) * s ≤ db.length := by rw [hs3']; exact Nat.mul_le_mul_right s hqn
            have KRW : Hid (Calls Try.prog 133 #[.slice (some ⟨b3, 0, none⟩) db.length db.length, .int .i64 (s : Int), .int .i64 (q : Int), .int .i64 ((q : Int) + 1)] wr fun e w'' => ∃ v, e = .returned v ∧ Rd w.heap.size wr v (Pl.rowAt db s q) ∧ w'' = wr) := by
              have := rows_any w.heap.size b3 0 db.length s q (q + 1) db wr (H3.out.keep ZR.out.2.2.2) (by omega) hq1 (Nat.le_refl _) (by omega)
              rw [show (q + 1) * s - q * s = s by rw [Nat.succ_mul]; omega, show (((q + 1 : Nat)) : Int) = (q : Int) + 1 by omega] at this
              exact this
            have RLn : Hid ((Pl.rowAt db s q).length = s) := Pl.rowAt_len hq1
            have hsd : s ≤ 1000 := by
              have : 1 * s ≤ (q + 1) * s := Nat.mul_le_mul_right s (by omega)
              omega
            have FS : Hid (Pl.flat db s (da.take (k + 1)) = Pl.flat db s (da.take k) ++ Pl.rowAt db s q) := by
              show _ = _
              rw [TS.out, Pl.flat_snoc]
              simp
            have AL : Hid ((da.take (k + 1)).all (Pl.inB n) = true) := by
              show _ = _
              rw [AS.out, hz.out]
              unfold Pl.inB
              rw [Bool.true_and, decide_eq_true_eq]
              exact hin
            have UB : Hid ((Pl.flat db s (da.take k)).length + (Pl.rowAt db s q).length ≤ 16777216) := by
              show _ ≤ _
              have h1 := Pl.flat_len db s (da.take k)
              have h2 : (da.take k).length * s ≤ 1000 * 1000 := Nat.mul_le_mul (by rw [List.length_take]; omega) hsd
              rw [RLn.out]
              omega
            have t1 : ¬ (q : Int) < 0 := by omega
            have t2 : ¬ (n : Int) ≤ (q : Int) := by omega
            clear TS AS AF hin hs1 hs3' HSN
            generalize Pl.flat db s (da.take k) = fl at *
            go_wp2_with (first | (go_at_call 83; refine (refuse_no _ _).mono ?_; rintro e wr ⟨rfl, rfl⟩))
            refine KRW.out.mono ?_
            rintro e wr ⟨rv, rfl, hrd, rfl⟩
            obtain ⟨zr, yr, er⟩ := hrd.form
            subst er
            have RR := hideP hrd
            clear hrd hck cb cb0 cb1 t1 t2
            go_wp2_with (at_builtin; refine wpList_append_rdg (base := w3.heap.size) _ rfl _ _ rfl _ _ rfl rfl fl.length fl _ ho.out RR.out UB.out hsr ?_)
            intro v' w9 ho' hg
            have ho9 : Hid (w9.ownsRow w3.heap.size 3 1 v' (fl ++ Pl.rowAt db s q).length ((fl ++ Pl.rowAt db s q).map (Value.int .i64))) := by
              show World.ownsRow _ _ _ _ _ _ _
              rw [List.length_append, List.map_append]
              exact ho'
            have hb9 : Hid (Below w3.heap.size w3 w9) := hbel.out.grown hg hsr (fun k hk => (ho.out.lt k hk).1)
            clear ho' hg
            go_wp2_with fail
            go_roundw
            case rel => exact ⟨k + 1, by omega, by go_num, AL, by show World.ownsRow _ _ _ _ _ _ _; rw [FS.out]; exact ho9.out, hb9⟩
            case measure => simp [intOf]; omega
          · have hbad : Pl.inB n x = false := by unfold Pl.inB; rw [decide_eq_false_iff_not]; exact hin
            have e := PE.out
            rw [AF.out hbad, if_neg (by decide)] at e
            simp only [Prod.mk.injEq] at e
            obtain ⟨rfl, rfl, rfl⟩ := e
            clear TS AS AF hbad PE
            by_cases hx : x < 0
            · clear hin
              go_wp2_with (go_at_call 83; refine (refuse_yes _ _).mono ?_; rintro e wr ⟨rfl, rfl⟩)
              exact ⟨rfl, ZR.out.2.2.2, .inr ⟨by decide, rfl, rfl, rfl⟩⟩
            · have hx2 : (n : Int) ≤ x := by omega
              clear hin
              go_wp2_with (go_at_call 83; refine (refuse_yes _ _).mono ?_; rintro e wr ⟨rfl, rfl⟩)
              exact ⟨rfl, ZR.out.2.2.2, .inr ⟨by decide, rfl, rfl, rfl⟩⟩
        · have kn : k = da.length := by omega
          subst kn
          rw [List.take_length] at hz
          have e := PE.out
          rw [if_pos hz.out] at e
          simp only [Prod.mk.injEq] at e
          have HE := hideP e
          have r0 := ZR.out.2.1.1
          have r1 := ZR.out.2.1.2.1
          have f2 := ZR.out.2.1.2.2
          have hs4 := ZR.out.2.2.1
          have hs5 := (PX.out w1 (Below.refl _ _)).2.2.1
          obtain ⟨L, hL⟩ : ∃ L, (Pl.flat db sN (da.take da.length)).length = L := ⟨_, rfl⟩
          have hLD : L = D.length := by rw [← hL, List.take_length, e.2.2]
          rw [hL]
          subst hLD
          clear e hL
          go_wp2_with fail
          refine bodyPost_ret (v := .agg #[.slice zs sh.length ys, .slice xo D.length yo]) (by simp [results, Try.results125, go_sem, r0, r1]) rfl ?_
          show KPost _ _ _ _ _ _
          rw [← HE.out.1, ← HE.out.2.1]
          have OWD : Own w3.heap.size wr (.slice xo D.length yo) D := own_of_any (by have := ho.out; rw [List.take_length, HE.out.2.2] at this; exact this)
          refine ⟨(ZR.out.2.2.2.setCell (by simp; omega) _).setCell (by simp; omega) _, .inl ⟨rfl, _, _, rfl, ?_, ?_, ?_⟩⟩
          · exact Own.base (Own.store (Own.store (HV.out.keep hbel.out) (by omega) _) (by omega) _) (by omega)
          · exact Own.base (Own.store (Own.store OWD (by omega) _) (by omega) _) (by omega)
          · exact apart_right (B := w3.heap.size) OWD HV.out.lt
  · have KF : Hid (∀ w', Rd w'.heap.size w' (.slice zs sh.length ys) sh → Calls Try.prog 131 #[.slice zs sh.length ys] w' fun e w'' => e = .panicked [thrown 6] ∧ w'' = w') := fun w' h => (needFit_any _ _ sh w' (by omega) h).mono (by
      rintro e w'' ⟨rfl, ⟨g, _⟩ | ⟨_, rfl⟩⟩
      · exact absurd g hf
      · exact ⟨rfl, rfl⟩)
    have RD3 := hideP HV.out.rd
    have e := HR.out
    rw [HSH.out, if_neg hf] at e
    simp only [Prod.mk.injEq] at e
    obtain ⟨rfl, rfl, rfl⟩ := e
    have BW := hideP (PX.out w3 B3.out).2.2.2
    go_wp2_with (go_at_call 131; refine (KF.out _ RD3.out).mono ?_; rintro e w3 ⟨rfl, rfl⟩)
    exact ⟨rfl, BW.out, .inr ⟨by decide, rfl, rfl, rfl⟩⟩

end Go.Proofs.Ytmobjomebmipdaa
