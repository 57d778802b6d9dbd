import Derived.Test.YtjhflbhbegocdaaInC
import Derived.Test.YtjhflbhbegocdaaImpR
import Derived.Test.YtjhflbhbegocdaaMon1
import Derived.Test.YtjhflbhbegocdaaFold
namespace Go.Proofs.Ytjhflbhbegocdaa
open Go.RowKit
set_option linter.unusedVariables false

namespace Pl
/-- the cells so far, and zeros -/
def upI (Q : Nat → Int × Int) (N a : Nat) : List Int := (List.range a).map (fun j => (Q j).1) ++ List.replicate (N - a) 0
theorem upI_zero (Q : Nat → Int × Int) (N : Nat) : upI Q N 0 = List.replicate N 0 := by simp [upI]
theorem upI_all (Q : Nat → Int × Int) (N : Nat) : upI Q N N = (List.range N).map (fun j => (Q j).1) := by simp [upI]
theorem upI_len (Q : Nat → Int × Int) {N a : Nat} (h : a ≤ N) : (upI Q N a).length = N := by simp [upI]; omega
theorem upI_step (Q : Nat → Int × Int) {N a : Nat} (h : a < N) : (upI Q N a).set a (Q a).1 = upI Q N (a + 1) := by
  unfold upI
  rw [List.set_append_right _ _ (by simp), List.range_succ, List.map_append]
  have e : N - a = (N - (a + 1)) + 1 := by omega
  rw [e, List.replicate_succ]
  simp
end Pl

theorem wrap_ok (x : Int) (h0 : -9223372036854775808 ≤ x) (h1 : x ≤ 9223372036854775807) : IntKind.i64.wrap x = x := by
  rw [IntKind.wrap_i64]
  omega

theorem box_op {w w1 : World} {x0 x1 x2 : Value} {o' : Obj} (hb : Below (w.heap.size + 1) ((w.alloc (.cells #[x0, x1, x2] 53)).alloc o') w1) :
    w1.cell? ⟨w.heap.size, 0, none⟩ = some x0 ∧ w1.cell? ⟨w.heap.size, 1, none⟩ = some x1 ∧ w1.cell? ⟨w.heap.size, 2, none⟩ = some x2 := by
  refine ⟨?_, ?_, ?_⟩
  · rw [hb.cell (p := ⟨w.heap.size, 0, none⟩) (by show w.heap.size < _; omega)]; simp [go_sem]
  · rw [hb.cell (p := ⟨w.heap.size, 1, none⟩) (by show w.heap.size < _; omega)]; simp [go_sem]
  · rw [hb.cell (p := ⟨w.heap.size, 2, none⟩) (by show w.heap.size < _; omega)]; simp [go_sem]

set_option maxRecDepth 100000 in
set_option maxHeartbeats 16000000 in
/-- impl.inner of valid arrays whose lengths fit -/
theorem innerI_core (f g : Nat) (nv nv2 : Int) (nb nb2 : Bool) (F G : Int → Int → Int × Int) (hcg : ∀ args w, (callFunc g args).run Try.prog w = .ok (.enter g args) w)
    (hcf : ∀ args w, (callFunc f args).run Try.prog w = .ok (.enter f args) w)
    (hF : ∀ x y w', -3000000000 ≤ x → x ≤ 3000000000 → -3000000000 ≤ y → y ≤ 3000000000 → Calls Try.prog f #[.int .i64 x, .int .i64 y] w' (CPost w' (F x y)))
    (hFb : ∀ x y, -3000000000 ≤ x → x ≤ 3000000000 → -3000000000 ≤ y → y ≤ 3000000000 → (F x y).2 = 0 → -3000000000 ≤ (F x y).1 ∧ (F x y).1 ≤ 3000000000)
    (hG : ∀ x y w', -3000000000 ≤ x → x ≤ 3000000000 → -3000000000 ≤ y → y ≤ 3000000000 → Calls Try.prog g #[.int .i64 x, .int .i64 y] w' (CPost w' (G x y)))
    (hGb : ∀ x y, -3000000000 ≤ x → x ≤ 3000000000 → -3000000000 ≤ y → y ≤ 3000000000 → (G x y).2 = 0 → -3000000000 ≤ (G x y).1 ∧ (G x y).1 ≤ 3000000000)
    (b0 b1 b2 b3 : Nat) (ta da tb db : List Int) (n : Nat) (w : World)
    (h0 : Rd w.heap.size w (.slice (some ⟨b0, 0, none⟩) (ta.length + 1) (ta.length + 1)) (ta ++ [(n : Int)])) (h1 : Rd w.heap.size w (.slice (some ⟨b1, 0, none⟩) da.length da.length) da)
    (h2 : Rd w.heap.size w (.slice (some ⟨b2, 0, none⟩) (tb.length + 1) (tb.length + 1)) ((n : Int) :: tb)) (h3 : Rd w.heap.size w (.slice (some ⟨b3, 0, none⟩) db.length db.length) db)
    (oka : Pl.okB (ta ++ [(n : Int)]) da = true) (okb : Pl.okB ((n : Int) :: tb) db = true)
    (H T : Nat) (hH : Pl.prodC ta = H) (hT : Pl.prodC tb = T) (hH' : H ≤ 1001) (hT' : T ≤ 1001) (hn' : n ≤ 1000) (hla : da.length = H * n) (hlb : db.length = n * T)
    (hN : Pl.fitsB (ta ++ tb) = true → Pl.prodC (ta ++ tb) = ((H * T : Nat) : Int))
    (Q : Nat → Int × Int) (hQ : Q = Pl.innQ F nv nb G n T da db)
    (c : Int) (S D : List Int) (hres : (if Pl.fitsB (ta ++ tb) = true then (if Pl.firstG Q (List.range (H * T)) = 0 then (0, ta ++ tb, (List.range (H * T)).map (fun i => (Q i).1)) else (Pl.firstG Q (List.range (H * T)), [], [])) else (6, [], [])) = (c, S, D)) :
    Calls Try.prog 28 #[.agg #[.func (.func f) #[] #[], .int .i64 nv, .bool nb], .agg #[.func (.func g) #[] #[], .int .i64 nv2, .bool nb2], .agg #[.slice (some ⟨b0, 0, none⟩) (ta.length + 1) (ta.length + 1), .slice (some ⟨b1, 0, none⟩) da.length da.length], .agg #[.slice (some ⟨b2, 0, none⟩) (tb.length + 1) (tb.length + 1), .slice (some ⟨b3, 0, none⟩) db.length db.length]] w (KPost w c S D) := by
  obtain ⟨i0, hi, hz0, hz1, hz2⟩ := info_parts Try.info3
  have HI := hideP (And.intro hi (And.intro hz0 (And.intro hz1 hz2)))
  clear hi hz0 hz1 hz2
  have m0 := Pl.ok_max oka
  have m2 := Pl.ok_max okb
  have hta : ta.length ≤ 2 := by have := m0.1; simp at this; omega
  have htb : tb.length ≤ 2 := by have := m2.1; simp at this; omega
  have A2 : ∀ o o', Below w.heap.size w ((w.alloc o).alloc o') := fun o o' => ((Below.refl _ _).alloc (Nat.le_refl _) _).alloc (by simp) _
  have W0 := hideP (fun o o' => wid_new ((w.alloc o).alloc o') ((h0.keep (A2 o o')).up (by simp; omega)) ((h1.keep (A2 o o')).up (by simp; omega)) ((h2.keep (A2 o o')).up (by simp; omega)) ((h3.keep (A2 o o')).up (by simp; omega)) 26 26 26)
  have KA : Hid (∀ w', Calls Try.prog 43 #[.agg #[.slice (some ⟨b0, 0, none⟩) (ta.length + 1) (ta.length + 1), .slice (some ⟨b1, 0, none⟩) da.length da.length]] w' fun e w'' => e = .returned (.bool false) ∧ Below w'.heap.size w' w'') := fun w' => by
    have := isScalar_any _ (.slice (some ⟨b1, 0, none⟩) da.length da.length) (ta ++ [(n : Int)]) _ w' w h0
    rw [decide_eq_false (by simp)] at this
    exact this
  have KB : Hid (∀ w', Calls Try.prog 43 #[.agg #[.slice (some ⟨b2, 0, none⟩) (tb.length + 1) (tb.length + 1), .slice (some ⟨b3, 0, none⟩) db.length db.length]] w' fun e w'' => e = .returned (.bool false) ∧ Below w'.heap.size w' w'') := fun w' => by
    have := isScalar_any _ (.slice (some ⟨b3, 0, none⟩) db.length db.length) ((n : Int) :: tb) _ w' w h2
    rw [decide_eq_false (by simp)] at this
    exact this
  obtain ⟨o2, ho2⟩ : ∃ o2 : Nat, o2 = if tb.length = 0 then 0 else 1 := ⟨_, rfl⟩
  have r0 : Rd w.heap.size w (.slice (some ⟨b0, 0, none⟩) ta.length (ta.length + 1)) ta := by
    have e : (ta ++ [(n : Int)]).length = ta.length + 1 := by simp
    have h := h0
    rw [← e] at h
    have := h.sub 0 ta.length (Nat.zero_le _) (by simp) (ta.length + 1)
    simpa using this
  have r2 : Rd w.heap.size w (.slice (some ⟨b2, o2, none⟩) tb.length tb.length) tb := by
    by_cases ht : tb.length = 0
    · rw [ht]
      exact rd_zero _ _ _ _ _ ht
    · rw [if_neg ht] at ho2
      subst ho2
      have e : ((n : Int) :: tb).length = tb.length + 1 := by simp
      have h := h2
      rw [← e] at h
      have := h.sub 1 (tb.length + 1) (by omega) (by simp) tb.length
      simpa using this
  have hca : b0 < w.heap.size ∧ w.cell? ⟨b0, ta.length, none⟩ = some (.int .i64 (n : Int)) := by
    have e : (ta ++ [(n : Int)]).length = ta.length + 1 := by simp
    have h := h0
    rw [← e] at h
    have := rd_cell h (i := ta.length) (by simp)
    simpa using this
  have hcb : b2 < w.heap.size ∧ w.cell? ⟨b2, 0, none⟩ = some (.int .i64 (n : Int)) := by
    have e : ((n : Int) :: tb).length = tb.length + 1 := by simp
    have h := h2
    rw [← e] at h
    have := rd_cell h (i := 0) (by simp)
    simpa using this
  have CA := hideP hca
  have CB := hideP hcb
  have H0 := hideP r0
  have H2 := hideP r2
  have H1 := hideP h1
  have H3 := hideP h3
  have OX := hideP (fun x (hx : x ∈ da) => Pl.ok_cell oka hx)
  have OY := hideP (fun x (hx : x ∈ db) => Pl.ok_cell okb hx)
  have hbb : Pl.baseB tb = true := by
    have := (Pl.ok_len okb).2
    simp only [Pl.fitsB, Bool.and_eq_true] at this
    exact Pl.base_tail this.1
  have KT : Hid (∀ w' v, Rd w'.heap.size w' v tb → Calls Try.prog 46 #[v] w' fun e w'' => e = .returned (.int .i64 (Pl.prodP tb)) ∧ w'' = w') := fun w' v h => cellCount_any _ v tb w' hbb h
  have HTP : Hid (T ≤ 1000 → Pl.prodP tb = T) := fun h => by
    have := (Pl.prod_two tb hbb).2.2 (by omega)
    rw [← this]; exact hT
  have HR := hideP hres
  have HQ := hideP hQ
  have HN := hideP hN
  obtain ⟨sh, hsh⟩ : ∃ sh, ta ++ tb = sh := ⟨_, rfl⟩
  have hlh : sh.length ≤ 4 := by rw [← hsh, List.length_append]; omega
  have HSH := hideP hsh
  have HO2 := hideP ho2
  have hld := m0.2
  have hle := m2.2
  have HLA := hideP hla
  have HLB := hideP hlb
  have HG := hideP hG
  have HGb := hideP hGb
  have KR : Hid (∀ (ga capa gb capb : Nat) (D1 : List Int) (W : World) (c2 : Int) (S2 D2 : List Int), Rd W.heap.size W (.slice (some ⟨ga, 0, none⟩) 1 capa) [(n : Int)] → Rd W.heap.size W (.slice (some ⟨gb, 0, none⟩) n capb) D1 → 1 ≤ capa → capa ≤ 9223372036854775807 → n ≤ capb → capb ≤ 9223372036854775807 → Pl.okB [(n : Int)] D1 = true → D1.length = n → Pl.reduceM F nv nb [(n : Int)] D1 = (c2, S2, D2) →
      Calls Try.prog 48 #[.agg #[.func (.func f) #[] #[], .int .i64 nv, .bool nb], .agg #[.slice (some ⟨ga, 0, none⟩) 1 capa, .slice (some ⟨gb, 0, none⟩) n capb]] W (KPost W c2 S2 D2)) := fun ga capa gb capb D1 W c2 S2 D2 q0 q1 q2 q3 q4 q5 q6 q7 q8 => by
    rw [← q7] at q1 q4 ⊢
    exact reduce_impl f nv nb F ga 0 capa gb 0 capb [(n : Int)] D1 W hcf hF hFb q0 q1 q2 q3 q4 q5 q6 c2 S2 D2 q8
  have A3 : Hid (∀ (W : World) o, Below W.heap.size W (W.alloc o)) := fun W o => (Below.refl _ _).alloc (Nat.le_refl _) _
  have hpT := (Pl.prod_two tb hbb).1
  clear h0 h1 h2 h3 oka okb hres hQ hsh r0 r2 hca hcb hH hT m0 m2 hla hlb ho2 hN hG hF hGb hFb hbb A2 hcf
  go_enter Try.func28, Try.ntmps28
  go_wp2_with fail
  refine (KA.out _).mono ?_
  rintro e w1 ⟨rfl, hb1⟩
  have W1 := hideP ((W0.out _ _).keep hb1)
  clear hb1
  have hs1 := W1.out.2.1
  simp at hs1
  have c2 := W1.out.2.2.1.2.2.1
  have c3 := W1.out.2.2.1.2.2.2
  simp at c2 c3
  go_wp2_with fail
  clear c2 c3
  refine (KB.out _).mono ?_
  rintro e w2 ⟨rfl, hb2⟩
  have W2 := hideP (W1.out.keep hb2)
  clear hb2 W1 W0 KA KB hs1
  have PX : Hid (∀ W, Below w2.heap.size w2 W → (W.cell? ⟨w.heap.size + 1 + 1, 0, none⟩ = some (.slice (some ⟨b0, 0, none⟩) (ta.length + 1) (ta.length + 1)) ∧ W.cell? ⟨w.heap.size + 1 + 1, 1, none⟩ = some (.slice (some ⟨b1, 0, none⟩) da.length da.length) ∧ W.cell? ⟨w.heap.size + 1 + 1 + 1, 0, none⟩ = some (.slice (some ⟨b2, 0, none⟩) (tb.length + 1) (tb.length + 1)) ∧ W.cell? ⟨w.heap.size + 1 + 1 + 1, 1, none⟩ = some (.slice (some ⟨b3, 0, none⟩) db.length db.length)) ∧
      (W.cell? ⟨w.heap.size + 1 + 1 + 1 + 1, 0, none⟩ = some (.slice none 0 0) ∧ W.cell? ⟨w.heap.size + 1 + 1 + 1 + 1, 1, none⟩ = some (.slice none 0 0) ∧ ∀ o, W.frozen? ⟨w.heap.size + 1 + 1 + 1 + 1, o, none⟩ = false) ∧ w.heap.size + 1 + 1 + 1 + 1 < W.heap.size ∧ Below w.heap.size w W ∧
      (W.cell? ⟨w.heap.size, 0, none⟩ = some (.func (.func f) #[] #[]) ∧ W.cell? ⟨w.heap.size, 1, none⟩ = some (.int .i64 nv) ∧ W.cell? ⟨w.heap.size, 2, none⟩ = some (.bool nb)) ∧ W.cell? ⟨w.heap.size + 1, 0, none⟩ = some (.func (.func g) #[] #[])) := fun W hb => by
    have k := W2.out.keep hb
    have e : ((w.alloc (.cells #[.func (.func f) #[] #[], .int .i64 nv, .bool nb] 53)).alloc (.cells #[.func (.func g) #[] #[], .int .i64 nv2, .bool nb2] 53)).heap.size = w.heap.size + 1 + 1 := by simp
    obtain ⟨k1, k2, k3, k4, _⟩ := k
    rw [e] at k1 k2 k3 k4
    refine ⟨k3, k4, by omega, (((Below.refl _ _).alloc (Nat.le_refl _) _).alloc (by simp) _).trans (k1.mono (by omega)), box_op (k1.mono (by omega)), ?_⟩
    rw [k1.cell (p := ⟨w.heap.size + 1, 0, none⟩) (by show w.heap.size + 1 < _; omega)]
    simp [go_sem]
  have Z2 := hideP (PX.out w2 (Below.refl _ _))
  have c0 := Z2.out.1.1
  have c2 := Z2.out.1.2.2.1
  have hs2 := Z2.out.2.2.1
  have ca : w2.cell? ⟨b0, ta.length, none⟩ = some (.int .i64 (n : Int)) := (Z2.out.2.2.2.1.cell (p := ⟨b0, ta.length, none⟩) CA.out.1).trans CA.out.2
  have cb : w2.cell? ⟨b2, 0, none⟩ = some (.int .i64 (n : Int)) := (Z2.out.2.2.2.1.cell (p := ⟨b2, 0, none⟩) CB.out.1).trans CB.out.2
  have RV : Hid (∀ W, Below w2.heap.size w2 W → Rd W.heap.size W (.slice (some ⟨b0, 0, none⟩) ta.length (ta.length + 1)) ta ∧ Rd W.heap.size W (.slice (some ⟨b2, o2, none⟩) tb.length tb.length) tb) := fun W hb => by
    have k := (PX.out W hb).2.2.2.1
    exact ⟨(H0.out.keep k).up k.size, (H2.out.keep k).up k.size⟩
  have hnn : ((n : Int) != (n : Int)) = false := by simp
  go_wp2_with (go_at_call 41; refine (refuse_no _ _).mono ?_; rintro e w2 ⟨rfl, rfl⟩)
  clear c0 c2 ca cb hnn
  have DR := hideP (show Below w2.heap.size w2 w2.drew from (Below.refl _ _).drew)
  refine wp_region_held (S := fun w' => Below w2.heap.size w2 w') (by kernel_rfl) ?_
  change wpAnyH _ _ _ _ _ _ _ _ (World.drew _)
  generalize World.drew w2 = wd at DR ⊢
  refine wpAnyH_take (i := 0) (v := .pointer (some ⟨w.heap.size + 1 + 1, 0, none⟩)) rfl (by kernel_rfl) (by kernel_rfl) (by kernel_rfl) (fun _ _ _ h => h) (Or.inl ⟨by rfl, ?_⟩) DR.out ?_
  · intro w' hS
    clear hS
    go_simp
  refine wpAnyH_take (i := 1) (v := .slice (some ⟨b0, 0, none⟩) (ta.length + 1) (ta.length + 1)) rfl (by kernel_rfl) (by kernel_rfl) (by kernel_rfl) (fun _ _ _ h => h) (Or.inl ⟨by rfl, ?_⟩) DR.out ?_
  · intro w' hS
    have := (PX.out w' hS).1.1
    clear hS
    go_simp
  refine wpAnyH_take (i := 2) (v := .int .i64 (ta.length : Int)) rfl (by kernel_rfl) (by kernel_rfl) (by kernel_rfl) (fun _ _ _ h => h) (Or.inl ⟨by rfl, fun w' _ => exec_move (.tmp 9) _ (by kernel_rfl) (by kernel_rfl) w'⟩) DR.out ?_
  refine wpAnyH_take (i := 3) (v := .slice (some ⟨b0, 0, none⟩) ta.length (ta.length + 1)) rfl (by kernel_rfl) (by kernel_rfl) (by kernel_rfl) (fun _ _ _ h => h) (Or.inl ⟨by rfl, fun w' _ => exec_hi (.tmp 44) (.tmp 45) b0 (ta.length + 1) ta.length (by kernel_rfl) (by kernel_rfl) (by kernel_rfl) (Nat.le_succ _) (Nat.succ_pos _) w'⟩) DR.out ?_
  refine wpAnyH_take (i := 4) (v := .pointer (some ⟨w.heap.size + 1 + 1 + 1, 0, none⟩)) rfl (by kernel_rfl) (by kernel_rfl) (by kernel_rfl) (fun _ _ _ h => h) (Or.inl ⟨by rfl, ?_⟩) DR.out ?_
  · intro w' hS
    clear hS
    go_simp
  refine wpAnyH_take (i := 5) (v := .slice (some ⟨b2, 0, none⟩) (tb.length + 1) (tb.length + 1)) rfl (by kernel_rfl) (by kernel_rfl) (by kernel_rfl) (fun _ _ _ h => h) (Or.inl ⟨by rfl, ?_⟩) DR.out ?_
  · intro w' hS
    have := (PX.out w' hS).1.2.2.1
    clear hS
    go_simp
  refine wpAnyH_take (i := 6) (v := .slice (some ⟨b2, o2, none⟩) tb.length tb.length) rfl (by kernel_rfl) (by kernel_rfl) (by kernel_rfl) (fun _ _ _ h => h) (Or.inl ⟨by rfl, fun w' _ => exec_lo1 (.tmp 48) (.const (.int .i64 1)) b2 tb.length o2 HO2.out (by kernel_rfl) (by kernel_rfl) (by kernel_rfl) w'⟩) DR.out ?_
  refine wpAnyH_ready (rs := [7]) (by kernel_rfl) (by simp) ?_
  refine AllReadyH.cons rfl (fun K hK => ?_) AllReadyH.nil
  go_simp
  have DA := hideP (DR.out.trans ((A3.out wd (.cells #[.slice (some ⟨b0, 0, none⟩) ta.length (ta.length + 1), .slice (some ⟨b2, o2, none⟩) tb.length tb.length] 22)).mono DR.out.size))
  refine hK.out _ _ DA.out (fun _ => ?_)
  clear hK
  refine wpAnyH_ready (rs := [8]) (by kernel_rfl) (by simp) ?_
  refine AllReadyH.cons rfl (fun K hK => ?_) AllReadyH.nil
  go_simp
  have J := joined2 wd.heap.size (.slice (some ⟨b0, 0, none⟩) ta.length (ta.length + 1)) (.slice (some ⟨b2, o2, none⟩) tb.length tb.length) ta tb _ (by omega) (by omega) (by simp) (by simp [go_sem]) (by simp [go_sem]) (RV.out _ DA.out).1 (RV.out _ DA.out).2
  rw [HSH.out] at J
  refine J.mono ?_
  clear J
  rintro e w3 ⟨sv, rfl, hv, hb3⟩
  have B3 := hideP (DA.out.trans (hb3.mono DA.out.size))
  have hs3 : w2.heap.size ≤ w3.heap.size := B3.out.size
  have HV := hideP (hv.base (show w2.heap.size ≤ _ from DA.out.size))
  obtain ⟨zs, ys, ez⟩ := hv.form
  subst ez
  clear hb3 hv DA DR
  refine hK.out _ _ B3.out (fun _ => ?_)
  clear hK
  refine wpAnyH_ready (rs := [9]) (by kernel_rfl) (by simp) ?_
  refine AllReadyH.cons rfl (fun K hK => ?_) AllReadyH.nil
  go_simp
  refine hK.out _ _ B3.out (fun _ => ?_)
  clear hK
  refine wpAnyH_done (by kernel_rfl) ?_ _
  by_cases hf : Pl.fitsB sh = true
  · have KF : Hid (∀ w', Rd w'.heap.size w' (.slice zs sh.length ys) sh → Calls Try.prog 45 #[.slice zs sh.length ys] w' fun e w'' => e = .returned (.tuple #[]) ∧ w'' = w') := fun w' h => (needFit_any _ _ sh w' (by omega) h).mono (by
      rintro e w'' ⟨rfl, ⟨_, rfl⟩ | ⟨g, _⟩⟩
      · exact ⟨rfl, rfl⟩
      · rw [hf] at g; cases g)
    have KC : Hid (∀ w', Rd w'.heap.size w' (.slice zs sh.length ys) sh → Calls Try.prog 46 #[.slice zs sh.length ys] w' fun e w'' => e = .returned (.int .i64 (Pl.prodC sh)) ∧ w'' = w') := fun w' h => cellCount_fits _ _ sh w' hf h
    have hNN : Pl.prodC sh = ((H * T : Nat) : Int) := by
      have := HN.out
      rw [HSH.out] at this
      exact this hf
    have hN1 : H * T ≤ 1000 := by
      have := hf
      simp only [Pl.fitsB, Bool.and_eq_true, decide_eq_true_eq] at this
      have := this.2
      rw [hNN] at this
      exact_mod_cast this
    rw [hNN] at KC
    have e := HR.out
    rw [HSH.out, if_pos hf] at e
    obtain ⟨N, hNe⟩ : ∃ N, H * T = N := ⟨_, rfl⟩
    have HNE := hideP hNe
    rw [hNe] at KC e hN1
    generalize hC : Pl.firstG Q (List.range N) = C at e
    have PC := hideP hC
    have PE := hideP e
    have RD3 := hideP HV.out.rd
    have Z3 := hideP (PX.out w3 B3.out)
    have RX := hideP (RV.out w3 B3.out).2
    have cb0 := Z3.out.1.2.2.1
    clear hC e HR hf hNN HN hNe RV Z2 hs2 H0 H2
    generalize hlbt : tb.length = lb at *
    have HLT : Hid (tb.length = lb) := hlbt
    clear hlbt
    go_upto_region 7 with (go_at_call 45; refine (KF.out _ RD3.out).mono ?_; rintro e w3 ⟨rfl, rfl⟩)
    go_cut [12] (fun s12 wy => s12 = .int .i64 (Pl.prodP tb) ∧ wy = w3)
    case first =>
      by_cases ht : lb = 0
      · have RZ : Hid (Rd w3.heap.size w3 (.slice (some ⟨b2, 0, none⟩) 0 0) tb) := rd_zero _ _ _ _ _ (HLT.out.trans ht)
        clear HLT HO2 RX Z3 PX
        subst ht
        go_wp2_with (go_at_call 46; refine (KT.out _ _ RZ.out).mono ?_; rintro e w3 ⟨rfl, rfl⟩)
        go_meet
        case rel => exact ⟨rfl, rfl⟩
      · have RZ : Hid (Rd w3.heap.size w3 (.slice (some ⟨b2, 1, none⟩) lb lb) tb) := by
          have := RX.out
          rw [HO2.out, if_neg ht] at this
          exact this
        go_wp2_with (go_at_call 46; refine (KT.out _ _ RZ.out).mono ?_; rintro e w3 ⟨rfl, rfl⟩)
        go_meet
        case rel => exact ⟨rfl, rfl⟩
    case rest =>
      obtain ⟨rfl, rfl⟩ := hcut
      rename World => w3
      clear cb0 RX Z3 KT CA CB HO2 HLT KF
      generalize Pl.prodP tb = TP at *
      go_wp2_with (first
        | (go_at_call 46; refine (KC.out _ RD3.out).mono ?_; rintro e w3 ⟨rfl, rfl⟩)
        | (at_make; refine wpList_make_full _ rfl _ _ 22 rfl w3.heap.size 3 i0 (.int .i64 0) 1 Try.underlying22 HI.out.1 HI.out.2.1 HI.out.2.2.1 _ _ _ _ N rfl rfl rfl rfl ?b2 ?b3 ?b4 ?_))
      case b2 => rw [HI.out.2.2.2]; omega
      case b3 => unfold maxLen; omega
      case b4 => exact Nat.le_refl _
      intro w4 hown hgrow
      rw [made_zeros] at hown
      have B4 : Hid (Below w3.heap.size w3 w4) := (Below.refl _ _).grown hgrow (Nat.le_refl _) (by intro k h; cases h)
      have HO4 := hideP hown
      clear hown hgrow
      go_wp2_with fail
      go_loopw [14, 15, 16, 17, 18, 19, 63] (fun _ _ _ _ _ _ s63 wr => ∃ a : Nat, a ≤ N ∧ s63 = .int .i64 a ∧ Hid (∀ j ∈ List.range a, (Q j).2 = 0) ∧ Hid (wr.ownsRow w3.heap.size 3 1 (.slice (some ⟨w3.heap.size, 0, none⟩) N N) N ((Pl.upI Q N a).map (Value.int .i64))) ∧ Hid (Below w3.heap.size w3 wr)) (fun _ _ _ _ _ _ s63 _ => N - (intOf s63).toNat)
      case atStart =>
        refine ⟨0, Nat.zero_le _, rfl, by intro x hx; simp at hx, ?_, B4⟩
        show World.ownsRow _ _ _ _ _ _ _
        rw [Pl.upI_zero]
        exact HO4.out
      case round =>
        clear HO4 B4
        obtain ⟨a, ha, rfl, hz, ho, hbel⟩ := hrel
        have B2R : Hid (Below w2.heap.size w2 wr) := B3.out.trans (hbel.out.mono hs3)
        have hsr := hbel.out.size
        by_cases hlt : a < N
        · have hlt' : (a : Int) < (N : Int) := by omega
          have hT0 : 0 < T := by
            rcases Nat.eq_zero_or_pos T with h | h
            · have := HNE.out; rw [h, Nat.mul_zero] at this; omega
            · exact h
          have hT1 : T ≤ 1000 := by
            have h := HNE.out
            have h1 : 0 < H := by
              rcases Nat.eq_zero_or_pos H with h' | h'
              · rw [h', Nat.zero_mul] at h; omega
              · exact h'
            have : 1 * T ≤ H * T := Nat.mul_le_mul_right T h1
            omega
          have eTP := HTP.out hT1
          subst eTP
          obtain ⟨i, hie⟩ : ∃ i, a / T = i := ⟨_, rfl⟩
          obtain ⟨k, hke⟩ : ∃ k, a % T = k := ⟨_, rfl⟩
          have hi : i < H := by rw [← hie]; exact Nat.div_lt_of_lt_mul (by rw [Nat.mul_comm, HNE.out]; exact hlt)
          have hk : k < T := by rw [← hke]; exact Nat.mod_lt _ hT0
          have eQ : i * T + k = a := by rw [← hie, ← hke]; exact Nat.div_add_mod' a T
          have CCs := hideP (Pl.cell_cases F G nv nb hn' HLA.out HLB.out hi hk HGb.out OX.out OY.out)
          have EQ : Hid (Q a = Pl.innC F nv nb G n (Pl.rowAt da n i) (Pl.innV db n T k)) := by
            show _ = _
            rw [HQ.out]
            unfold Pl.innQ
            rw [hie, hke]
          have hpn : (i + 1) * n ≤ da.length := by rw [HLA.out]; exact Nat.mul_le_mul_right n hi
          have FA : Hid (¬ (Q a).2 = 0 → C = (Q a).2) := fun h => by rw [← PC.out]; exact Pl.range_first Q N a hlt hz.out h
          have KRW : Hid (∀ W, Below w2.heap.size w2 W → Calls Try.prog 47 #[.slice (some ⟨b1, 0, none⟩) da.length da.length, .int .i64 (n : Int), .int .i64 (i : Int), .int .i64 ((i : Int) + 1)] W fun e w'' => ∃ v, e = .returned v ∧ Rd w.heap.size W v (Pl.rowAt da n i) ∧ w'' = W) := fun W hb => by
            have := rows_any w.heap.size b1 0 da.length n i (i + 1) da W (H1.out.keep (PX.out W hb).2.2.2.1) (by omega) hpn (Nat.le_refl _) (by omega)
            rw [show (i + 1) * n - i * n = n by rw [Nat.succ_mul]; omega, show (((i + 1 : Nat)) : Int) = (i : Int) + 1 by omega] at this
            exact this
          have RLn : Hid ((Pl.rowAt da n i).length = n) := Pl.rowAt_len hpn
          have VLn : Hid ((Pl.innV db n T k).length = n) := Pl.innV_len db n T k
          have YS : Hid (∀ j, j < n → j * T + k < db.length ∧ (Pl.innV db n T k).getD j 0 = db.getD (j * T + k) 0) := fun j hj => ⟨by
              rw [HLB.out]
              have := Nat.mul_le_mul_right T (show j + 1 ≤ n from hj)
              rw [Nat.succ_mul] at this
              omega, Pl.innV_get db n T k j hj⟩
          have d1 : (a : Int) / (T : Int) = (i : Int) := by rw [← hie]; simp
          have d2 : (a : Int) % (T : Int) = (k : Int) := by rw [← hke]; simp
          have d3 : ¬ (T : Int) = 0 := by omega
          have d4 : Int.tmod (a : Int) (T : Int) = (k : Int) := by rw [← hke]; rfl
          have d5 : Int.tdiv (a : Int) (T : Int) = (i : Int) := by rw [← hie]; rfl
          have QO : Hid (∀ m, (wr.drewN m).ownsRow w3.heap.size 3 1 (.slice (some ⟨w3.heap.size, 0, none⟩) N N) N ((Pl.upI Q N a).map (Value.int .i64))) := fun m => ho.out
          have QB : Hid (∀ m, Below w3.heap.size w3 (wr.drewN m)) := fun m => below_drewN hbel.out m
          have hil : i ≤ 1001 := by omega
          clear hie hke eQ hpn
          go_wp2_with fail
          go_quiet (fail)
          have OQ := hideP (QO.out nq)
          have BQ := hideP (QB.out nq)
          clear QO QB ho hbel B2R hsr d1 d2 d3 d4 d5
          generalize wr.drewN nq = wq at *
          have B2Q : Hid (Below w2.heap.size w2 wq) := B3.out.trans (BQ.out.mono hs3)
          have hsq := BQ.out.size
          go_wp2_with (at_make; refine wpList_make_full _ rfl _ _ 22 rfl wq.heap.size 3 i0 (.int .i64 0) 1 Try.underlying22 HI.out.1 HI.out.2.1 HI.out.2.2.1 _ _ _ _ n rfl rfl rfl rfl ?b2 ?b3 ?b4 ?_)
          case b2 => rw [HI.out.2.2.2]; omega
          case b3 => unfold maxLen; omega
          case b4 => exact Nat.le_refl _
          intro w5 hown hgrow
          rw [made_zeros] at hown
          have B5 : Hid (Below wq.heap.size wq w5) := (Below.refl _ _).grown hgrow (Nat.le_refl _) (by intro k h; cases h)
          have HO5 := hideP hown
          have Z5 := hideP (PX.out w5 (B2Q.out.trans (B5.out.mono B2Q.out.size)))
          have cd := Z5.out.1.2.1
          clear hown hgrow
          go_wp2_with fail
          refine (KRW.out _ (B2Q.out.trans (B5.out.mono B2Q.out.size))).mono ?_
          rintro e w5 ⟨rv, rfl, hrd, rfl⟩
          obtain ⟨ax, cx, bx, ox, ex, hax, hbx, hcx⟩ := hrd.parts
          rw [RLn.out] at ex hax hbx hcx
          subst ex
          have hwq : w.heap.size ≤ wq.heap.size := by have := (PX.out wq B2Q.out).2.2.1; omega
          have PXs : Hid ((0 < n → ax = some ⟨bx, ox, none⟩) ∧ (0 < n → bx < w.heap.size) ∧ (∀ l, l < n → wq.cell? ⟨bx, ox + l, none⟩ = some (.int .i64 ((Pl.rowAt da n i).getD l 0)))) := ⟨hax, hbx, fun l hl => ((B5.out.cell (p := ⟨bx, ox + l, none⟩) (by have := hbx (by omega); show bx < _; omega)).symm.trans (hcx l hl))⟩
          clear hrd hax hbx hcx cd Z5 KRW
          have HXS : Hid (∀ x ∈ Pl.rowAt da n i, -3000000000 ≤ x ∧ x ≤ 3000000000) := fun x hx => OX.out x (Pl.rowAt_mem hx)
          have HYS : Hid (∀ x ∈ Pl.innV db n T k, -3000000000 ≤ x ∧ x ≤ 3000000000) := fun x hx => OY.out x (Pl.innV_mem HLB.out hk hx)
          generalize Pl.rowAt da n i = xs at *
          generalize Pl.innV db n T k = yv at *
          go_wp2_with fail
          go_loopw [18, 19, 82] (fun _ _ s82 wr => ∃ j : Nat, j ≤ n ∧ s82 = .int .i64 j ∧ Hid (∀ p ∈ Pl.zipT xs yv j, (Pl.pairF G p).2 = 0) ∧ Hid (wr.ownsRow wq.heap.size 3 1 (.slice (some ⟨wq.heap.size, 0, none⟩) n n) n ((Pl.upG G xs yv j).map (Value.int .i64))) ∧ Hid (Below wq.heap.size wq wr)) (fun _ _ s82 _ => n - (intOf s82).toNat)
          case atStart =>
            refine ⟨0, Nat.zero_le _, rfl, by intro x hx; rw [Pl.zipT_zero] at hx; simp at hx, ?_, B5⟩
            show World.ownsRow _ _ _ _ _ _ _
            rw [Pl.upG_zero, RLn.out]
            exact HO5.out
          case round =>
            clear HO5 B5
            obtain ⟨j, hj, rfl, hzj, ho, hbel⟩ := hrel
            have BR : Hid (Below w2.heap.size w2 wr) := B2Q.out.trans (hbel.out.mono B2Q.out.size)
            have HBW := hideP (PX.out wr BR.out).2.2.2.1
            have hsr := hbel.out.size
            by_cases hlt3 : j < n
            · have hltj : (j : Int) < (n : Int) := by omega
              have hlx : j < xs.length := by rw [RLn.out]; exact hlt3
              have hly : j < yv.length := by rw [VLn.out]; exact hlt3
              have hll : yv.length = xs.length := by rw [RLn.out, VLn.out]
              have hax := PXs.out.1 (by omega)
              have hck : wr.cell? ⟨bx, ox + j, none⟩ = some (.int .i64 (xs.getD j 0)) := (hbel.out.cell (p := ⟨bx, ox + j, none⟩) (by have := PXs.out.2.1 (by omega); show bx < _; omega)).trans (PXs.out.2.2 j hlt3)
              obtain ⟨hix, hyg⟩ := YS.out j hlt3
              have rdb := rd_cell H3.out hix
              rw [Nat.zero_add, ← hyg] at rdb
              have CY := hideP rdb
              have X := HXS.out (xs.getD j 0) (by
                have : xs.getD j 0 = xs[j] := by simp [List.getD, hlx]
                rw [this]; exact List.getElem_mem hlx)
              have Y := HYS.out (yv.getD j 0) (by
                have : yv.getD j 0 = yv[j] := by simp [List.getD, hly]
                rw [this]; exact List.getElem_mem hly)
              have TT : Hid (Pl.zipT xs yv (j + 1) = Pl.zipT xs yv j ++ [(xs.getD j 0, yv.getD j 0)]) := Pl.zipT_snoc xs yv j hlx hly
              have FB : Hid (¬ (G (xs.getD j 0) (yv.getD j 0)).2 = 0 → Pl.firstG (Pl.pairF G) (xs.zip yv) = (G (xs.getD j 0) (yv.getD j 0)).2) := Pl.first_at G xs yv j hlx hly hzj.out
              have U : Hid ((Pl.upG G xs yv j).set j (G (xs.getD j 0) (yv.getD j 0)).1 = Pl.upG G xs yv (j + 1)) := Pl.upG_step G xs yv j hlx hll
              clear hyg rdb hll hlx hly PXs
              subst hax
              generalize xs.getD j 0 = x at *
              generalize yv.getD j 0 = y at *
              have LC : Hid (∀ w', Calls Try.prog g #[.int .i64 x, .int .i64 y] w' (CPost w' (G x y))) := fun w' => HG.out x y w' X.1 X.2 Y.1 Y.2
              clear X Y
              have e1 : ((j : Int) * (T : Int)) = ((j * T : Nat) : Int) := by simp
              generalize j * T = q at *
              have LR : Hid (∀ w', Below wq.heap.size wr w' → w'.cell? ⟨w.heap.size + 1, 0, none⟩ = some (.func (.func g) #[] #[]) ∧ w'.cell? ⟨w.heap.size + 1 + 1 + 1, 1, none⟩ = some (.slice (some ⟨b3, 0, none⟩) db.length db.length) ∧ w'.cell? ⟨b3, q + k, none⟩ = some (.int .i64 y)) := fun w' h => by
                have b2 : Below w2.heap.size w2 w' := BR.out.trans (h.mono B2Q.out.size)
                have z := PX.out w' b2
                exact ⟨z.2.2.2.2.2, z.1.2.2.2, (z.2.2.2.1.cell (p := ⟨b3, q + k, none⟩) CY.out.1).trans CY.out.2⟩
              have DR := hideP (show Below wq.heap.size wr wr.drew from (Below.refl _ _).drew)
              go_wp2_with fail
              refine wp_region_held (S := fun w' => Below wq.heap.size wr w') (by kernel_rfl) ?_
              change wpAnyH _ _ _ _ _ _ _ _ (World.drew _)
              refine wpAnyH_take (i := 0) (v := .slice (some ⟨wq.heap.size, 0, none⟩) n n) rfl (by kernel_rfl) (by kernel_rfl) (by kernel_rfl) (fun _ _ _ h => h) (Or.inl ⟨by rfl, ?_⟩) DR.out ?_
              · intro w' hS
                clear hS
                go_simp
              refine wpAnyH_take (i := 1) (v := .int .i64 (j : Int)) rfl (by kernel_rfl) (by kernel_rfl) (by kernel_rfl) (fun _ _ _ h => h) (Or.inl ⟨by rfl, ?_⟩) DR.out ?_
              · intro w' hS
                clear hS
                go_simp
              refine wpAnyH_take (i := 2) (v := .pointer (some ⟨w.heap.size + 1, 0, none⟩)) rfl (by kernel_rfl) (by kernel_rfl) (by kernel_rfl) (fun _ _ _ h => h) (Or.inl ⟨by rfl, ?_⟩) DR.out ?_
              · intro w' hS
                clear hS
                go_simp
              refine wpAnyH_take (i := 3) (v := .func (.func g) #[] #[]) rfl (by kernel_rfl) (by kernel_rfl) (by kernel_rfl) (fun _ _ _ h => h) (Or.inl ⟨by rfl, ?_⟩) DR.out ?_
              · intro w' hS
                have := (LR.out w' hS).1
                clear hS
                go_simp
              refine wpAnyH_take (i := 4) (v := .int .i64 x) rfl (by kernel_rfl) (by kernel_rfl) (by kernel_rfl) (fun _ _ _ h => h) (Or.inl ⟨by rfl, ?_⟩) DR.out ?_
              · intro w' hS
                clear hS
                go_simp
              refine wpAnyH_take (i := 5) (v := .pointer (some ⟨w.heap.size + 1 + 1 + 1, 1, none⟩)) rfl (by kernel_rfl) (by kernel_rfl) (by kernel_rfl) (fun _ _ _ h => h) (Or.inl ⟨by rfl, ?_⟩) DR.out ?_
              · intro w' hS
                clear hS
                go_simp
              refine wpAnyH_take (i := 6) (v := .slice (some ⟨b3, 0, none⟩) db.length db.length) rfl (by kernel_rfl) (by kernel_rfl) (by kernel_rfl) (fun _ _ _ h => h) (Or.inl ⟨by rfl, ?_⟩) DR.out ?_
              · intro w' hS
                have := (LR.out w' hS).2.1
                clear hS
                go_simp
              refine wpAnyH_take (i := 7) (v := .int .i64 (j : Int)) rfl (by kernel_rfl) (by kernel_rfl) (by kernel_rfl) (fun _ _ _ h => h) (Or.inl ⟨by rfl, ?_⟩) DR.out ?_
              · intro w' hS
                clear hS
                go_simp
              refine wpAnyH_take (i := 8) (v := .int .i64 (T : Int)) rfl (by kernel_rfl) (by kernel_rfl) (by kernel_rfl) (fun _ _ _ h => h) (Or.inl ⟨by rfl, ?_⟩) DR.out ?_
              · intro w' hS
                clear hS
                go_simp
              refine wpAnyH_take (i := 9) (v := .int .i64 (q : Int)) rfl (by kernel_rfl) (by kernel_rfl) (by kernel_rfl) (fun _ _ _ h => h) (Or.inl ⟨by rfl, ?_⟩) DR.out ?_
              · intro w' hS
                clear hS
                go_simp
                exact wrap_ok _ (by omega) (by omega)
              refine wpAnyH_take (i := 10) (v := .int .i64 (k : Int)) rfl (by kernel_rfl) (by kernel_rfl) (by kernel_rfl) (fun _ _ _ h => h) (Or.inl ⟨by rfl, ?_⟩) DR.out ?_
              · intro w' hS
                clear hS
                go_simp
              refine wpAnyH_take (i := 11) (v := .int .i64 ((q : Int) + (k : Int))) rfl (by kernel_rfl) (by kernel_rfl) (by kernel_rfl) (fun _ _ _ h => h) (Or.inl ⟨by rfl, ?_⟩) DR.out ?_
              · intro w' hS
                clear hS
                go_simp
                exact wrap_ok _ (by omega) (by omega)
              refine wpAnyH_take (i := 12) (v := .pointer (some ⟨b3, q + k, none⟩)) rfl (by kernel_rfl) (by kernel_rfl) (by kernel_rfl) (fun _ _ _ h => h) (Or.inl ⟨by rfl, ?_⟩) DR.out ?_
              · intro w' hS
                clear hS
                go_simp
                rw [if_pos ⟨by omega, by omega⟩, show ((q : Int) + (k : Int)).toNat = q + k by omega]
              refine wpAnyH_take (i := 13) (v := .int .i64 y) rfl (by kernel_rfl) (by kernel_rfl) (by kernel_rfl) (fun _ _ _ h => h) (Or.inl ⟨by rfl, ?_⟩) DR.out ?_
              · intro w' hS
                have := (LR.out w' hS).2.2
                clear hS
                go_simp
              clear LR hck e1
              refine wpAnyH_ready (rs := [14]) (by kernel_rfl) (by simp) ?_
              refine AllReadyH.cons rfl (fun K hK => ?_) AllReadyH.nil
              go_simp
              refine (LC.out _).mono ?_
              rintro e w6 ⟨hb6, hor⟩
              have hb6' : Below wr.heap.size wr w6 := (show Below wr.heap.size wr wr.drew from (Below.refl _ _).drew).trans hb6
              have S6 := hideP (hb6'.mono hsr)
              have ho6 := owns_keep ho.out hb6'
              have HBW6 := hideP (HBW.out.trans (hb6'.mono HBW.out.size))
              clear hb6 hb6'
              rcases hor with ⟨hr, rfl⟩ | ⟨hr, rfl⟩
              · have hfz := ho6.frozenAt j
                have hst := ho6.stored j (.int .i64 (G x y).1)
                have hcg : ∃ u, w6.cell? ⟨wq.heap.size, j, none⟩ = some (.int .i64 u) := by
                  rw [ho6.cellAt j (by omega)]
                  have hlen : j < (Pl.upG G xs yv j).length := by
                    have := ho6.1
                    simp at this
                    omega
                  exact ⟨(Pl.upG G xs yv j)[j], by simp [hlen]⟩
                obtain ⟨u, hcg⟩ := hcg
                have hs6 : wq.heap.size < w6.heap.size := World.block_lt_of_cell? w6 _ hcg
                have R : Hid ((w6.setCell ⟨wq.heap.size, j, none⟩ (.int .i64 (G x y).1)).ownsRow wq.heap.size 3 1 (.slice (some ⟨wq.heap.size, 0, none⟩) n n) n ((Pl.upG G xs yv (j + 1)).map (Value.int .i64))) := by
                  show World.ownsRow _ _ _ _ _ _ _
                  rw [← U.out, List.map_set]
                  exact hst.1
                have S7 : Hid (Below wq.heap.size wr (w6.setCell ⟨wq.heap.size, j, none⟩ (.int .i64 (G x y).1))) := S6.out.setCell (Nat.le_refl _) _
                have B7 : Hid (Below wq.heap.size wq (w6.setCell ⟨wq.heap.size, j, none⟩ (.int .i64 (G x y).1))) := hbel.out.trans S7.out
                have Z : Hid (∀ p ∈ Pl.zipT xs yv (j + 1), (Pl.pairF G p).2 = 0) := by
                  intro p hp
                  rw [TT.out] at hp
                  simp at hp
                  rcases hp with hp | rfl
                  · exact hzj.out p hp
                  · exact hr
                clear hst ho6 FB hr
                generalize (G x y).1 = rr at *
                refine hK.out _ _ S6.out (fun _ => ?_)
                clear hK
                refine wpAnyH_ready (rs := [15]) (by kernel_rfl) (by simp) ?_
                refine AllReadyH.cons rfl (fun K hK => ?_) AllReadyH.nil
                go_simp
                refine hK.out _ _ S6.out (fun _ => ?_)
                clear hK
                refine wpAnyH_ready (rs := [16]) (by kernel_rfl) (by simp) ?_
                refine AllReadyH.cons rfl (fun K hK => ?_) AllReadyH.nil
                go_simp
                refine hK.out _ _ S7.out (fun _ => ?_)
                clear hK
                refine wpAnyH_done (by kernel_rfl) ?_ _
                go_wp2_with fail
                go_roundw
                case rel => exact ⟨j + 1, by omega, by go_num, Z, R, B7⟩
                case measure => simp [intOf]; omega
              · have EC := FB.out hr
                have eQ2 : (Q a).2 = (G x y).2 := by
                  rw [EQ.out]
                  unfold Pl.innC
                  rw [EC, if_neg hr]
                have EF := FA.out (by rw [eQ2]; exact hr)
                rw [eQ2] at EF
                have e := PE.out
                rw [if_neg (by rw [EF]; exact hr)] at e
                simp only [Prod.mk.injEq] at e
                exact ⟨rfl, HBW6.out, .inr ⟨by rw [← e.1, EF]; exact hr, e.2.1.symm, e.2.2.symm, by rw [← e.1, EF]⟩⟩
            · have jn : j = n := by omega
              subst jn
              have F0 : Pl.firstG (Pl.pairF G) (xs.zip yv) = 0 := Pl.firstG_zero _ _ (by
                have := hzj.out
                rw [Pl.zipT_all _ _ _ (by rw [RLn.out]; exact Nat.le_refl _)] at this
                exact this)
              have OK1 := hideP (Pl.ok_map G HGb.out CCs.out.1 CCs.out.2.1 F0)
              have e := EQ.out
              unfold Pl.innC at e
              rw [if_pos F0] at e
              have OO : Hid (wr.ownsRow wq.heap.size 3 1 (.slice (some ⟨wq.heap.size, 0, none⟩) j j) j (((xs.zip yv).map (fun p => (Pl.pairF G p).1)).map (Value.int .i64))) := by
                have := ho.out
                rw [Pl.upG_all G xs yv j (by rw [RLn.out]; exact Nat.le_refl _)] at this
                exact this
              have hDl : ((xs.zip yv).map (fun p => (Pl.pairF G p).1)).length = j := by
                rw [List.length_map, List.length_zip, RLn.out, VLn.out, Nat.min_self]
              generalize (xs.zip yv).map (fun p => (Pl.pairF G p).1) = D1 at *
              have hcase := Pl.reduce_vec F nv nb j D1 hDl
              obtain ⟨c2, S2, D2, hred⟩ : ∃ c2 S2 D2, Pl.reduceM F nv nb [(j : Int)] D1 = (c2, S2, D2) := ⟨_, _, _, rfl⟩
              rw [hred] at e hcase
              have HD : Hid (c2 = 0 → ∃ v, D2 = [v] ∧ Q a = (v, 0)) := fun h => by
                rcases hcase with ⟨v, hv⟩ | ⟨c', hc', hv⟩
                · simp only [Prod.mk.injEq] at hv
                  refine ⟨v, hv.2.2, ?_⟩
                  rw [e, hv.1, hv.2.2]
                  rfl
                · simp only [Prod.mk.injEq] at hv
                  exact absurd (hv.1.symm.trans h) hc'
              have HD2 : Hid ((Q a).2 = c2) := by show _ = _; rw [e]
              have KR' : Hid (∀ (gv : Nat) (W : World), Own wr.heap.size W (.slice (some ⟨gv, 0, none⟩) 1 1) [(j : Int)] → W.ownsRow wq.heap.size 3 1 (.slice (some ⟨wq.heap.size, 0, none⟩) j j) j (D1.map (Value.int .i64)) → Calls Try.prog 48 #[.agg #[.func (.func f) #[] #[], .int .i64 nv, .bool nb], .agg #[.slice (some ⟨gv, 0, none⟩) 1 1, .slice (some ⟨wq.heap.size, 0, none⟩) j j]] W (KPost W c2 S2 D2)) := fun gv W o r => by
                have rr := (own_of_any (show W.ownsRow wq.heap.size 3 1 (.slice (some ⟨wq.heap.size, 0, none⟩) j j) D1.length (D1.map (Value.int .i64)) by rw [hDl]; exact r)).rd
                exact KR.out gv 1 wq.heap.size j D1 W c2 S2 D2 o.rd rr (Nat.le_refl _) (by omega) (Nat.le_refl _) (by omega) OK1.out hDl hred
              clear e hcase hred F0 CCs EQ YS HXS HYS PXs OK1 KR hDl
              have hsq3 : w3.heap.size ≤ wq.heap.size := hsq
              have BR3 : Hid (Below w3.heap.size w3 wr) := BQ.out.trans (hbel.out.mono hsq3)
              have ORD : Hid (wr.ownsRow w3.heap.size 3 1 (.slice (some ⟨w3.heap.size, 0, none⟩) N N) N ((Pl.upI Q N a).map (Value.int .i64))) := owns_keep OQ.out hbel.out
              have D3 := hideP (show Below w3.heap.size w3 wr.drew from BR3.out.drew)
              have OOd : Hid (wr.drew.ownsRow wq.heap.size 3 1 (.slice (some ⟨wq.heap.size, 0, none⟩) j j) j (D1.map (Value.int .i64))) := OO.out.drew
              have ORd : Hid (wr.drew.ownsRow w3.heap.size 3 1 (.slice (some ⟨w3.heap.size, 0, none⟩) N N) N ((Pl.upI Q N a).map (Value.int .i64))) := ORD.out.drew
              have hsw : wr.heap.size = wr.drew.heap.size := rfl
              have LF : Hid (∀ w', Below w3.heap.size w3 w' → w'.cell? ⟨w.heap.size, 0, none⟩ = some (.func (.func f) #[] #[]) ∧ w'.cell? ⟨w.heap.size, 1, none⟩ = some (.int .i64 nv) ∧ w'.cell? ⟨w.heap.size, 2, none⟩ = some (.bool nb)) := fun w' h => (PX.out w' (B3.out.trans (h.mono hs3))).2.2.2.2.1
              have BWd : Hid (∀ w', Below w3.heap.size w3 w' → Below w.heap.size w w') := fun w' h => (PX.out w' (B3.out.trans (h.mono hs3))).2.2.2.1
              go_wp2_with fail
              refine wp_region_held (S := fun w' => Below w3.heap.size w3 w') (by kernel_rfl) ?_
              change wpAnyH _ _ _ _ _ _ _ _ (World.drew _)
              rw [hsw] at KR'
              clear OO ORD BR3 ho hbel BR HBW hsr hsw
              generalize World.drew wr = wn0 at *
              refine wpAnyH_take (i := 0) (v := .slice (some ⟨w3.heap.size, 0, none⟩) N N) rfl (by kernel_rfl) (by kernel_rfl) (by kernel_rfl) (fun _ _ _ h => h) (Or.inl ⟨by rfl, ?_⟩) D3.out ?_
              · intro w' hS
                clear hS
                go_simp
              refine wpAnyH_take (i := 1) (v := .int .i64 (a : Int)) rfl (by kernel_rfl) (by kernel_rfl) (by kernel_rfl) (fun _ _ _ h => h) (Or.inl ⟨by rfl, ?_⟩) D3.out ?_
              · intro w' hS
                clear hS
                go_simp
              refine wpAnyH_take (i := 2) (v := .agg #[.func (.func f) #[] #[], .int .i64 nv, .bool nb]) rfl (by kernel_rfl) (by kernel_rfl) (by kernel_rfl) (fun _ _ _ h => h) (Or.inl ⟨by rfl, ?_⟩) D3.out ?_
              · intro w' hS
                obtain ⟨l0, l1, l2⟩ := LF.out w' hS
                clear hS
                go_simp
              refine wpAnyH_take (i := 3) (v := .slice (some ⟨wq.heap.size, 0, none⟩) j j) rfl (by kernel_rfl) (by kernel_rfl) (by kernel_rfl) (fun _ _ _ h => h) (Or.inl ⟨by rfl, ?_⟩) D3.out ?_
              · intro w' hS
                clear hS
                go_simp
              refine wpAnyH_ready (rs := [4]) (by kernel_rfl) (by simp) ?_
              refine AllReadyH.cons rfl (fun K hK => ?_) AllReadyH.nil
              go_simp
              refine (vector_any _ _ _ _).mono ?_
              rintro e wv ⟨gv, rfl, ov, hbv⟩
              have SV := hideP (D3.out.trans (hbv.mono D3.out.size))
              have OV := hideP ov
              have OOv := hideP (owns_keep OOd.out hbv)
              have ORv := hideP (owns_keep ORd.out hbv)
              clear ov hbv OOd ORd
              refine hK.out _ _ SV.out (fun _ => ?_)
              clear hK
              refine wpAnyH_ready (rs := [5]) (by kernel_rfl) (by simp) ?_
              refine AllReadyH.cons rfl (fun K hK => ?_) AllReadyH.nil
              go_simp
              refine (KR'.out gv _ OV.out OOv.out).mono ?_
              rintro e wz ⟨hbz, hor⟩
              have SZ := hideP (SV.out.trans (hbz.mono SV.out.size))
              have orz := owns_keep ORv.out hbz
              clear hbz
              rcases hor with ⟨hc0, t0, t1, rfl, resz⟩ | ⟨hc0, _, _, rfl⟩
              · obtain ⟨v, hD2, hQv⟩ := HD.out hc0
                subst hD2
                obtain ⟨ao, dcap, e1, hor⟩ := resz.2.1
                obtain ⟨dg, doff, hdg, hdz, rfl, hdc⟩ := hor.resolve_left (by simp)
                have e1' : t1 = .slice (some ⟨dg, doff, none⟩) 1 dcap := e1
                clear e1
                subst e1'
                obtain ⟨x0, y0, e0⟩ := resz.1.form
                subst e0
                have hdc0 : wz.cell? ⟨dg, doff, none⟩ = some (.int .i64 v) := (hdc 0 (by simp)).1
                have hfd : ∀ W, (Instr.field 26 (.agg #[.slice x0 S2.length y0, .slice (some ⟨dg, doff, none⟩) 1 dcap]) 1).run Try.prog W = .ok (.slice (some ⟨dg, doff, none⟩) 1 dcap) W := fun W => by kernel_rfl
                have hfz := orz.frozenAt a
                have hst := orz.stored a (.int .i64 v)
                obtain ⟨u, hcg⟩ : ∃ u, wz.cell? ⟨w3.heap.size, a, none⟩ = some (.int .i64 u) := by
                  rw [orz.cellAt a (by omega)]
                  have hlen : a < (Pl.upI Q N a).length := by rw [Pl.upI_len Q ha]; exact hlt
                  exact ⟨(Pl.upI Q N a)[a], by simp [hlen]⟩
                have hsz : w3.heap.size < wz.heap.size := World.block_lt_of_cell? wz _ hcg
                have R : Hid ((wz.setCell ⟨w3.heap.size, a, none⟩ (.int .i64 v)).ownsRow w3.heap.size 3 1 (.slice (some ⟨w3.heap.size, 0, none⟩) N N) N ((Pl.upI Q N (a + 1)).map (Value.int .i64))) := by
                  show World.ownsRow _ _ _ _ _ _ _
                  rw [← Pl.upI_step Q hlt, hQv, List.map_set]
                  exact hst.1
                have S9 : Hid (Below w3.heap.size w3 (wz.setCell ⟨w3.heap.size, a, none⟩ (.int .i64 v))) := SZ.out.setCell (Nat.le_refl _) _
                have ZZ : Hid (∀ j ∈ List.range (a + 1), (Q j).2 = 0) := by
                  intro j hj
                  rw [List.range_succ] at hj
                  simp only [List.mem_append, List.mem_cons, List.not_mem_nil, or_false] at hj
                  rcases hj with hj | rfl
                  · exact hz.out j hj
                  · rw [hQv]
                clear hst orz hdc hor resz hQv HD HD2 hc0
                refine hK.out _ _ SZ.out (fun _ => ?_)
                clear hK
                refine wpAnyH_ready (rs := [6]) (by kernel_rfl) (by simp) ?_
                refine AllReadyH.cons rfl (fun K hK => ?_) AllReadyH.nil
                have hfd' := hfd wz
                clear hfd
                go_simp
                refine hK.out _ _ SZ.out (fun _ => ?_)
                clear hK hfd'
                refine wpAnyH_ready (rs := [7]) (by kernel_rfl) (by simp) ?_
                refine AllReadyH.cons rfl (fun K hK => ?_) AllReadyH.nil
                go_simp
                refine hK.out _ _ SZ.out (fun _ => ?_)
                clear hK
                refine wpAnyH_ready (rs := [8]) (by kernel_rfl) (by simp) ?_
                refine AllReadyH.cons rfl (fun K hK => ?_) AllReadyH.nil
                go_simp
                refine hK.out _ _ SZ.out (fun _ => ?_)
                clear hK
                refine wpAnyH_ready (rs := [9]) (by kernel_rfl) (by simp) ?_
                refine AllReadyH.cons rfl (fun K hK => ?_) AllReadyH.nil
                go_simp
                refine hK.out _ _ SZ.out (fun _ => ?_)
                clear hK
                refine wpAnyH_ready (rs := [10]) (by kernel_rfl) (by simp) ?_
                refine AllReadyH.cons rfl (fun K hK => ?_) AllReadyH.nil
                go_simp
                refine hK.out _ _ S9.out (fun _ => ?_)
                clear hK
                refine wpAnyH_done (by kernel_rfl) ?_ _
                go_wp2_with fail
                go_roundw
                case rel => exact ⟨a + 1, by omega, by go_num, ZZ, R, S9⟩
                case measure => simp [intOf]; omega
              · have EF := FA.out (by rw [HD2.out]; exact hc0)
                rw [HD2.out] at EF
                have e := PE.out
                rw [if_neg (by rw [EF]; exact hc0)] at e
                simp only [Prod.mk.injEq] at e
                exact ⟨rfl, BWd.out _ SZ.out, .inr ⟨by rw [← e.1, EF]; exact hc0, e.2.1.symm, e.2.2.symm, by rw [← e.1, EF]⟩⟩
        · have an : a = N := by omega
          subst an
          have EC : Pl.firstG Q (List.range a) = 0 := Pl.firstG_zero Q _ hz.out
          rw [PC.out] at EC
          have e := PE.out
          rw [if_pos EC] at e
          simp only [Prod.mk.injEq] at e
          have hoD := ho.out
          rw [Pl.upI_all, e.2.2] at hoD
          have HOD := hideP hoD
          have HE := hideP e
          have hDl : D.length = a := by rw [← e.2.2]; simp
          have ZR := hideP (PX.out wr B2R.out)
          have r0 := ZR.out.2.1.1
          have r1 := ZR.out.2.1.2.1
          have f2 := ZR.out.2.1.2.2
          have hs4 := ZR.out.2.2.1
          have hs5 := (PX.out w2 (Below.refl _ _)).2.2.1
          clear EC e hoD ho
          go_wp2_with fail
          refine bodyPost_ret (v := .agg #[.slice zs sh.length ys, .slice (some ⟨w3.heap.size, 0, none⟩) a a]) (by simp [results, Try.results28, go_sem, r0, r1]) rfl ?_
          show KPost _ _ _ _ _ _
          rw [← HE.out.1, ← HE.out.2.1]
          have OWD : Own w3.heap.size wr (.slice (some ⟨w3.heap.size, 0, none⟩) a a) D := by
            have := HOD.out
            rw [← hDl] at this
            have := own_of_any this
            rw [hDl] at this
            exact this
          refine ⟨(ZR.out.2.2.2.1.setCell (by simp; omega) _).setCell (by simp; omega) _, .inl ⟨rfl, _, _, rfl, ?_, ?_, ?_⟩⟩
          · exact Own.base (Own.store (Own.store (HV.out.keep hbel.out) (by omega) _) (by omega) _) (by omega)
          · exact Own.base (Own.store (Own.store OWD (by omega) _) (by omega) _) (by omega)
          · exact apart_right (B := w3.heap.size) OWD HV.out.lt
  · have KF : Hid (∀ w', Rd w'.heap.size w' (.slice zs sh.length ys) sh → Calls Try.prog 45 #[.slice zs sh.length ys] w' fun e w'' => e = .panicked [thrown 6] ∧ w'' = w') := fun w' h => (needFit_any _ _ sh w' (by omega) h).mono (by
      rintro e w'' ⟨rfl, ⟨g, _⟩ | ⟨_, rfl⟩⟩
      · exact absurd g hf
      · exact ⟨rfl, rfl⟩)
    have RD3 := hideP HV.out.rd
    have e := HR.out
    rw [HSH.out, if_neg hf] at e
    simp only [Prod.mk.injEq] at e
    obtain ⟨rfl, rfl, rfl⟩ := e
    have BW := hideP (PX.out w3 B3.out).2.2.2.1
    go_wp2_with (go_at_call 45; refine (KF.out _ RD3.out).mono ?_; rintro e w3 ⟨rfl, rfl⟩)
    exact ⟨rfl, BW.out, .inr ⟨by decide, rfl, rfl, rfl⟩⟩

end Go.Proofs.Ytjhflbhbegocdaa
