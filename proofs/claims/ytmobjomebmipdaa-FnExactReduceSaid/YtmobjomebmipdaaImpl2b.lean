import Derived.Test.YtmobjomebmipdaaImpl2
namespace Go.Proofs.Ytmobjomebmipdaa
open Go.RowKit
set_option linter.unusedVariables false

/-- what is kept from below -/
theorem wid_sizes {w wx : World} {o : Obj} {sa xs sb ys : List Int} {p0 p1 p2 p3 : Value} (h : Wid (w.alloc o) sa xs sb ys p0 p1 p2 p3 wx) :
    w.heap.size + 3 < wx.heap.size ∧ (wx.cell? ⟨w.heap.size + 1, 0, none⟩ = some p0 ∧ wx.cell? ⟨w.heap.size + 1, 1, none⟩ = some p1 ∧ wx.cell? ⟨w.heap.size + 1 + 1, 0, none⟩ = some p2 ∧ wx.cell? ⟨w.heap.size + 1 + 1, 1, none⟩ = some p3) ∧
    (wx.cell? ⟨w.heap.size + 1 + 1 + 1, 0, none⟩ = some (.slice none 0 0) ∧ wx.cell? ⟨w.heap.size + 1 + 1 + 1, 1, none⟩ = some (.slice none 0 0) ∧ ∀ o, wx.frozen? ⟨w.heap.size + 1 + 1 + 1, o, none⟩ = false) ∧ Below w.heap.size w wx := by
  obtain ⟨h1, h2, h3, h4, _⟩ := h
  have e : (w.alloc o).heap.size = w.heap.size + 1 := by simp
  rw [e] at h1 h2 h3 h4
  exact ⟨by omega, h3, h4, ((Below.refl _ _).alloc (Nat.le_refl _) _).trans (h1.mono (by omega))⟩

set_option maxRecDepth 100000 in
set_option maxHeartbeats 4000000 in
/-- impl.each2 where one array is a scalar -/
theorem each2_scalar (f : Nat) (nv : Int) (nb : Bool) (F : Int → Int → Int × Int) (v0 v1 v2 v3 : Value) (sa da sb db : List Int) (w : World) (hl1 : da.length ≤ 1048576) (hl3 : db.length ≤ 1048576) (hcf : ∀ args w, (callFunc f args).run Try.prog w = .ok (.enter f args) w)
    (hF : ∀ x y w', -3000000000 ≤ x → x ≤ 3000000000 → -3000000000 ≤ y → y ≤ 3000000000 → Calls Try.prog f #[.int .i64 x, .int .i64 y] w' (CPost w' (F x y)))
    (h0 : Rd w.heap.size w v0 sa) (h1 : Rd w.heap.size w v1 da) (h2 : Rd w.heap.size w v2 sb) (h3 : Rd w.heap.size w v3 db) (oka : Pl.okB sa da = true) (okb : Pl.okB sb db = true) (c : Int) (S D : List Int) (hres : Pl.each2M F sa da sb db = (c, S, D)) (hsc : sa.length = 0 ∨ sb.length = 0) :
    Calls Try.prog 52 #[.agg #[.func (.func f) #[] #[], .int .i64 nv, .bool nb], .agg #[v0, v1], .agg #[v2, v3]] w (KPost w c S D) := by
  have hmf : ∀ (fn : Fn) (first cap : Array Value) (w : World), (Instr.makeFunc fn first cap).run Try.prog w = .ok (.func fn first cap) w := fun _ _ _ _ => rfl
  have hl0 : sa.length ≤ 3 := by
    have := (Pl.ok_len oka).2
    simp only [Pl.fitsB, Pl.baseB, Bool.and_eq_true, decide_eq_true_eq] at this
    omega
  have hl2 : sb.length ≤ 3 := by
    have := (Pl.ok_len okb).2
    simp only [Pl.fitsB, Pl.baseB, Bool.and_eq_true, decide_eq_true_eq] at this
    omega
  have A : ∀ o, Below w.heap.size w (w.alloc o) := fun o => (Below.refl _ _).alloc (Nat.le_refl _) _
  have W0 := hideP (fun o => wid_new (w.alloc o) ((h0.keep (A o)).up (by simp)) ((h1.keep (A o)).up (by simp)) ((h2.keep (A o)).up (by simp)) ((h3.keep (A o)).up (by simp)) 27 27 27)
  have KA := hideP (fun w' => isScalar_any v0 v1 sa _ w' w h0)
  have KB := hideP (fun w' => isScalar_any v2 v3 sb _ w' w h2)
  obtain ⟨a0, d0, e0⟩ := h0.form
  obtain ⟨a1, d1, b1, o1, e1, hao1, hb1, hc1⟩ := h1.parts
  obtain ⟨a2, d2, e2⟩ := h2.form
  obtain ⟨a3, d3, b3, o3, e3, hao3, hb3, hc3⟩ := h3.parts
  have P1 := hideP (And.intro hao1 (And.intro hb1 hc1))
  have P3 := hideP (And.intro hao3 (And.intro hb3 hc3))
  subst e0
  subst e1
  subst e2
  subst e3
  have HF := hideP hF
  have OA := hideP oka
  have OB := hideP okb
  have HR := hideP hres
  clear h0 h1 h2 h3 hF oka okb hres hao1 hb1 hc1 hao3 hb3 hc3 A
  by_cases hsa : sa.length = 0
  · have hda := Pl.ok_one OA.out hsa
    have hao := P1.out.1 (by omega)
    have hlt := P1.out.2.1 (by omega)
    have hce := P1.out.2.2 0 (by omega)
    rw [Nat.add_zero] at hce
    have e := HR.out
    unfold Pl.each2M at e
    rw [if_pos hsa, Pl.eachL F sb da db OB.out] at e
    simp only [Prod.mk.injEq] at e
    have HE := hideP e
    rw [decide_eq_true hsa] at KA
    have hx : -3000000000 ≤ da.getD 0 0 ∧ da.getD 0 0 ≤ 3000000000 := Pl.ok_cell OA.out (by
      have : da.getD 0 0 = da[0] := by simp [List.getD, hda]
      rw [this]; exact List.getElem_mem _)
    have HDA := hideP hda
    have HCE := hideP hce
    clear hsa hda hce e hsc
    subst hao
    go_enter Try.func52, Try.ntmps52
    go_wp2_with fail
    refine (KA.out _).mono ?_
    rintro e w1 ⟨rfl, hb1⟩
    have W1 := hideP ((W0.out _).keep hb1)
    have CO : Hid (w1.cell? ⟨w.heap.size, 0, none⟩ = some (.func (.func f) #[] #[])) := by
      have := hb1.cell (p := ⟨w.heap.size, 0, none⟩) (by show w.heap.size < _; simp; omega)
      show _ = _
      rw [this]
      simp [go_sem]
    clear hb1
    obtain ⟨hs1, ⟨c0, c1, c2, c3⟩, ⟨r0, r1, f3⟩, hbw⟩ := wid_sizes W1.out
    have BW := hideP hbw
    have CA := hideP c1
    clear hbw
    go_wp2_with fail
    refine (each1_any 92 #[.pointer (some ⟨w.heap.size, 0, none⟩), .pointer (some ⟨w.heap.size + 1, 0, none⟩)] (F (da.getD 0 0)) (.slice a2 sb.length d2) (.slice a3 db.length d3) sb db w1 (by omega) hl3 W1.out.2.2.2.2.2.2.1 W1.out.2.2.2.2.2.2.2 callF92 ?_).mono ?_
    · intro y hy w' hb
      have hyb := Pl.ok_cell OB.out hy
      refine c92_any f (F (da.getD 0 0) y) w.heap.size (w.heap.size + 1) b1 o1 da.length d1 (da.getD 0 0) y w' hcf ?_ ?_ (by rw [HDA.out]; omega) ?_ (fun w'' => HF.out _ _ w'' hx.1 hx.2 hyb.1 hyb.2)
      · exact (hb.cell (p := ⟨w.heap.size, 0, none⟩) (by show w.heap.size < _; omega)).trans CO.out
      · exact (hb.cell (p := ⟨w.heap.size + 1, 1, none⟩) (by show w.heap.size + 1 < _; omega)).trans CA.out
      · exact (hb.cell (p := ⟨b1, o1, none⟩) (by show b1 < _; omega)).trans ((BW.out.cell (p := ⟨b1, o1, none⟩) hlt).trans HCE.out)
    rintro e w2 ⟨hb2, hor⟩
    rw [HE.out.2.1, HE.out.2.2, HE.out.1] at hor
    have W2 := hideP (W1.out.keep hb2)
    have B2 := hideP (BW.out.trans (hb2.mono (by omega)))
    clear hb2 c0 c1 c2 c3 r0 r1 f3 HE
    rcases hor with ⟨hc0, u0, u1, rfl, hres⟩ | ⟨hc0, rfl, rfl, rfl⟩
    · have R2 := hideP hres
      have HC := hideP hc0
      obtain ⟨x0, y0, e0⟩ := hres.1.form
      obtain ⟨x1, y1, e1⟩ := hres.2.1.form
      subst e0
      subst e1
      obtain ⟨hs2, _, ⟨r0, r1, f3⟩, _⟩ := wid_sizes W2.out
      clear hres hc0
      go_wp2_with fail
      refine bodyPost_ret (v := .agg #[.slice x0 S.length y0, .slice x1 D.length y1]) (by simp [results, Try.results52, go_sem, r0, r1]) rfl ⟨(B2.out.setCell (by simp; omega) _).setCell (by simp; omega) _, .inl ⟨HC.out, _, _, rfl, ?_, ?_, R2.out.2.2⟩⟩
      · exact Own.base (Own.store (Own.store R2.out.1 (by omega) _) (by omega) _) (by omega)
      · exact Own.base (Own.store (Own.store R2.out.2.1 (by omega) _) (by omega) _) (by omega)
    · exact ⟨rfl, B2.out, .inr ⟨hc0, rfl, rfl, rfl⟩⟩
  · have hsb : sb.length = 0 := by omega
    have hda := Pl.ok_one OB.out hsb
    have hao := P3.out.1 (by omega)
    have hlt := P3.out.2.1 (by omega)
    have hce := P3.out.2.2 0 (by omega)
    rw [Nat.add_zero] at hce
    have e := HR.out
    unfold Pl.each2M at e
    rw [if_neg hsa, if_pos hsb, Pl.eachR F sa da db OA.out] at e
    simp only [Prod.mk.injEq] at e
    have HE := hideP e
    rw [decide_eq_false hsa] at KA
    rw [decide_eq_true hsb] at KB
    have hx : -3000000000 ≤ db.getD 0 0 ∧ db.getD 0 0 ≤ 3000000000 := Pl.ok_cell OB.out (by
      have : db.getD 0 0 = db[0] := by simp [List.getD, hda]
      rw [this]; exact List.getElem_mem _)
    have HDA := hideP hda
    have HCE := hideP hce
    clear hsa hsb hda hce e hsc
    subst hao
    go_enter Try.func52, Try.ntmps52
    go_wp2_with fail
    refine (KA.out _).mono ?_
    rintro e w1 ⟨rfl, hb1⟩
    have W1 := hideP ((W0.out _).keep hb1)
    have CO : Hid (w1.cell? ⟨w.heap.size, 0, none⟩ = some (.func (.func f) #[] #[])) := by
      have := hb1.cell (p := ⟨w.heap.size, 0, none⟩) (by show w.heap.size < _; simp; omega)
      show _ = _
      rw [this]
      simp [go_sem]
    clear hb1
    have c2 := (wid_sizes W1.out).2.1.2.2.1
    have c3 := (wid_sizes W1.out).2.1.2.2.2
    have hs1 := (wid_sizes W1.out).1
    go_wp2_with fail
    refine (KB.out _).mono ?_
    rintro e w1' ⟨rfl, hb1⟩
    replace W1 := hideP (W1.out.keep hb1)
    replace CO : Hid (w1'.cell? ⟨w.heap.size, 0, none⟩ = some (.func (.func f) #[] #[])) := (hb1.cell (p := ⟨w.heap.size, 0, none⟩) (by show w.heap.size < _; omega)).trans CO.out
    clear hb1 c2 c3 hs1
    obtain ⟨hs1, ⟨c0, c1, c2, c3⟩, ⟨r0, r1, f3⟩, hbw⟩ := wid_sizes W1.out
    have BW := hideP hbw
    have CA := hideP c3
    clear hbw
    go_wp2_with fail
    refine (each1_any 93 #[.pointer (some ⟨w.heap.size, 0, none⟩), .pointer (some ⟨w.heap.size + 1 + 1, 0, none⟩)] (fun x => F x (db.getD 0 0)) (.slice a0 sa.length d0) (.slice a1 da.length d1) sa da w1' (by omega) hl1 W1.out.2.2.2.2.1 W1.out.2.2.2.2.2.1 callF93 ?_).mono ?_
    · intro y hy w' hb
      have hyb := Pl.ok_cell OA.out hy
      refine c93_any f (F y (db.getD 0 0)) w.heap.size (w.heap.size + 1 + 1) b3 o3 db.length d3 (db.getD 0 0) y w' hcf ?_ ?_ (by rw [HDA.out]; omega) ?_ (fun w'' => HF.out _ _ w'' hyb.1 hyb.2 hx.1 hx.2)
      · exact (hb.cell (p := ⟨w.heap.size, 0, none⟩) (by show w.heap.size < _; omega)).trans CO.out
      · exact (hb.cell (p := ⟨w.heap.size + 1 + 1, 1, none⟩) (by show w.heap.size + 1 + 1 < _; omega)).trans CA.out
      · exact (hb.cell (p := ⟨b3, o3, none⟩) (by show b3 < _; omega)).trans ((BW.out.cell (p := ⟨b3, o3, none⟩) hlt).trans HCE.out)
    rintro e w2 ⟨hb2, hor⟩
    rw [HE.out.2.1, HE.out.2.2, HE.out.1] at hor
    have W2 := hideP (W1.out.keep hb2)
    have B2 := hideP (BW.out.trans (hb2.mono (by omega)))
    clear hb2 c0 c1 c2 c3 r0 r1 f3 HE
    rcases hor with ⟨hc0, u0, u1, rfl, hres⟩ | ⟨hc0, rfl, rfl, rfl⟩
    · have R2 := hideP hres
      have HC := hideP hc0
      obtain ⟨x0, y0, e0⟩ := hres.1.form
      obtain ⟨x1, y1, e1⟩ := hres.2.1.form
      subst e0
      subst e1
      obtain ⟨hs2, _, ⟨r0, r1, f3⟩, _⟩ := wid_sizes W2.out
      clear hres hc0
      go_wp2_with fail
      refine bodyPost_ret (v := .agg #[.slice x0 S.length y0, .slice x1 D.length y1]) (by simp [results, Try.results52, go_sem, r0, r1]) rfl ⟨(B2.out.setCell (by simp; omega) _).setCell (by simp; omega) _, .inl ⟨HC.out, _, _, rfl, ?_, ?_, R2.out.2.2⟩⟩
      · exact Own.base (Own.store (Own.store R2.out.1 (by omega) _) (by omega) _) (by omega)
      · exact Own.base (Own.store (Own.store R2.out.2.1 (by omega) _) (by omega) _) (by omega)
    · exact ⟨rfl, B2.out, .inr ⟨hc0, rfl, rfl, rfl⟩⟩

end Go.Proofs.Ytmobjomebmipdaa
