import Derived.Test.YtljkolffjjhgeaaDoorMki
namespace Go.Proofs.YtljkolffjjhgeaaDoor
open Go.RowKit
set_option linter.unusedVariables false
set_option maxRecDepth 100000
theorem Pl.mkL_len2 {α : Type} {f : Nat → α → α × Nat} (hf : ∀ m a, m + 1 ≤ (f m a).2) : ∀ (c : List α) (m : Nat), m + c.length ≤ (Pl.mkL f m c).2
  | [], m => Nat.le_refl _
  | a :: c, m => by
    have h1 := hf m a
    have h2 := Pl.mkL_len2 hf c (f m a).2
    show m + (a :: c).length ≤ (Pl.mkL f (f m a).2 c).2
    rw [List.length_cons]
    omega
theorem Pl.mkSv_gt (m : Nat) (s : Pl.Sv) : m + 1 ≤ (Pl.mkSv m s).2 := by
  have : m + 1 ≤ (Pl.mkI (m + 1) s.nums).2 := Pl.mkL_ge Pl.mk1_ge s.nums (m + 1)
  show m + 1 ≤ (Pl.mkI (m + 1) s.nums).2 + 5
  omega
theorem Pl.mkTv_gt (m : Nat) (t : Pl.Tv) : m + 1 ≤ (Pl.mkTv m t).2 := by
  have h1 : m + 2 ≤ (Pl.mkS (m + 2) t.code).2 := Pl.mkL_ge Pl.mkSv_ge t.code (m + 2)
  have h2 : (Pl.mkS (m + 2) t.code).2 ≤ (Pl.mkG (Pl.mkS (m + 2) t.code).2 t.gs).2 := Pl.mkL_ge Pl.mkGv_ge t.gs (Pl.mkS (m + 2) t.code).2
  show m + 1 ≤ (Pl.mkG (Pl.mkS (m + 2) t.code).2 t.gs).2
  omega
theorem Hd.setg {α : Type} {z : Nat} {Q : World → List Value → α → List Nat → Prop} (L : Lives Q) {w : World} {v : Value} {c : List α} {F : List Nat} (h : Hd z Q w v c F) {g : Nat} (hg : g ∉ F) (o : Nat) (u : Value) : Hd z Q (w.setCell ⟨g, o, none⟩ u) v c F :=
  h.keep L (fun b hb => Below.heap_setCell _ _ _ b (fun e => hg ((show b = g from e) ▸ hb)))
theorem Hd.text {α : Type} {z : Nat} {Q : World → List Value → α → List Nat → Prop} (L : Lives Q) {w w' : World} {v : Value} {c : List α} {F : List Nat} (h : Hd z Q w v c F) (hF : ∀ b ∈ F, b < w.heap.size) (hb : Below w.heap.size w w') : Hd z Q w' v c F :=
  h.keep L (fun b hm => hb.block b (hF b hm))
set_option maxHeartbeats 4000000 in
/-- laws.markStepS -/
theorem markStepS_any (v : Value) (m : Nat) (c : List Pl.Sv) (F : List Nat) (w : World) (h1 : 1 ≤ m) (hb : (Pl.mkS m c).2 ≤ 1099511627776) (h : HdS w v c F) :
    Calls Tryd.prog 16 #[v, .int .i64 (m : Int)] w fun e w' => e = .returned (.int .i64 ((Pl.mkS m c).2 : Nat)) ∧ HdS w' v (Pl.mkS m c).1 F ∧ Wt w w' F := by
  obtain ⟨ao, cap, rfl⟩ := h.form
  have hlc : c.length ≤ 1099511627776 := by have : m + c.length ≤ (Pl.mkS m c).2 := Pl.mkL_len2 Pl.mkSv_gt c m; omega
  generalize hn : c.length = n at h hlc ⊢
  have HN := hideP hn
  have HLE : Hid (∀ i (h : i < c.length), (Pl.mkSv (Pl.mkS m (c.take i)).2 c[i]).2 ≤ 1099511627776) := fun i h => Nat.le_trans (Pl.mk_le Pl.mkSv_ge h m) hb
  have H0 : Hid (HdS w (.slice ao n cap) ((Pl.mkS m (c.take 0)).1 ++ c.drop 0) F) := h
  clear h hn hb
  go_enter Tryd.func16, Tryd.ntmps16
  go_wp2_with fail
  go_loopw [1, 5] (fun k i wr => ∃ j : Nat, j ≤ n ∧ i = .int .i64 j ∧ k = .int .i64 ((Pl.mkS m (c.take j)).2 : Nat) ∧ Hid (HdS wr (.slice ao n cap) ((Pl.mkS m (c.take j)).1 ++ c.drop j) F) ∧ Hid (Wt w wr F)) (fun _ i _ => n - (intOf i).toNat)
  case atStart => exact ⟨0, Nat.zero_le _, rfl, rfl, H0, Wt.refl _ _⟩
  case round =>
    obtain ⟨j, hj, rfl, rfl, HH, HW⟩ := hrel
    by_cases hlt : j < n
    · have hjn : j < c.length := by rw [HN.out]; exact hlt
      have hlt' : (j : Int) < (n : Int) := by omega
      have hle := HLE.out j hjn
      have hh := HH.out
      rw [split_at hjn] at hh
      obtain ⟨g, cap', x, f, hv, hQ, hS, hg, hf, hfn, hfl, put⟩ := hh.focus Qs'.lives Qs'.len
      have hml : (Pl.mkS m (c.take j)).1.length = j := Pl.mk_tlen _ (by omega) m
      rw [hml] at hS put
      have hao : ao = some ⟨g, 0, none⟩ := (Value.slice.inj hv).1
      subst hao
      have hT : Pl.mkS m (c.take (j + 1)) = ((Pl.mkS m (c.take j)).1 ++ [(Pl.mkSv (Pl.mkS m (c.take j)).2 c[j]).1], (Pl.mkSv (Pl.mkS m (c.take j)).2 c[j]).2) := Pl.mkL_take Pl.mkSv hjn m
      have HNX : Hid ((Pl.mkS m (c.take j)).1 ++ (Pl.mkSv (Pl.mkS m (c.take j)).2 c[j]).1 :: c.drop (j + 1) = (Pl.mkS m (c.take (j + 1))).1 ++ c.drop (j + 1)) := Pl.mk_next Pl.mkSv hjn m
      have hm1 : m ≤ (Pl.mkS m (c.take j)).2 := Pl.mk_tk Pl.mkSv_ge c j m
      have hT2 : (Pl.mkS m (c.take (j + 1))).2 = (Pl.mkSv (Pl.mkS m (c.take j)).2 c[j]).2 := by rw [hT]
      have HPUT := hideP (fun w' x' a' h1 h2 => put w' x' a' h1 h2)
      have HFL := hideP hfl
      have HF := hideP hf
      have HG := hideP hg
      have HT2 := hideP hT2
      clear hT hT2 put hh HH H0 HLE hv hml hfl hf hg
      generalize Pl.mkS m (c.take j) = M at *
      generalize c[j] = s at *
      obtain ⟨M1, t⟩ := M
      obtain ⟨nv, rfl, hI⟩ := hQ
      obtain ⟨a1, c1, rfl⟩ := hI.form
      have hle2 : (Pl.mkI (t + 1) s.nums).2 + 5 ≤ 1099511627776 := hle
      have hge2 : t + 1 ≤ (Pl.mkI (t + 1) s.nums).2 := Pl.mkL_ge Pl.mk1_ge _ _
      have HSV : Hid (Pl.mkSv t s = (⟨t, (Pl.mkI (t + 1) s.nums).1, (Pl.mkX (Pl.mkI (t + 1) s.nums).2).data.toList, ⟨((Pl.mkI (t + 1) s.nums).2 + 1 : Nat), ((Pl.mkI (t + 1) s.nums).2 + 2 : Nat), ((Pl.mkI (t + 1) s.nums).2 + 3 : Nat), (Pl.mkX ((Pl.mkI (t + 1) s.nums).2 + 4)).data.toList⟩⟩, (Pl.mkI (t + 1) s.nums).2 + 5)) := rfl
      have hgf := hS.gf
      have S1 := hS.set (j := 0) (by omega) (.int .i64 (t : Int))
      have c0 := hS.cur 0 _ rfl
      have d1 := S1.cur 1 _ rfl
      have f0 := hS.fro
      simp only [Nat.add_zero] at c0 S1 d1
      have hI1 := hI.setg Qi.lives hgf (j * 7) (.int .i64 (t : Int))
      have hF1 : ∀ b ∈ f, b < (wr.setCell ⟨g, j * 7, none⟩ (.int .i64 (t : Int))).heap.size := fun b hb => by simpa using HFL.out b hb
      have K37 := hideP (markIntS_any (.slice a1 s.nums.length c1) (t + 1) s.nums f _ (by omega) hI1)
      have HNL : Hid (s.nums.length = s.nums.length) := rfl
      generalize hr : (Pl.mkI (t + 1) s.nums).2 = r at *
      generalize hr1 : (Pl.mkI (t + 1) s.nums).1 = R1 at *
      have e1 : (((t + 1 : Nat)) : Int) = (t : Int) + 1 := by omega
      rw [e1] at K37
      have K15 := hideP (fun w => markText_any r w (by omega) (by omega))
      have K15b := hideP (fun w => markText_any (r + 4) w (by omega) (by omega))
      generalize s.nums.length = nl at *
      simp only at hm1
      go_wp2_with fail
      refine K37.out.mono ?_
      rintro e w2 ⟨rfl, hI2, hW2⟩
      have S2 := S1.inner hW2 (fun b hb => hb)
      have hF2 : ∀ b ∈ f, b < w2.heap.size := fun b hb => Nat.lt_of_lt_of_le (hF1 b hb) hW2.size
      clear hI1 hW2 hF1 K37 S1 d1 f0 c0 hI
      go_wp2_with fail
      refine (K15.out _).mono ?_
      rintro e w3 ⟨rfl, hb3⟩
      have S3 := S2.text hb3
      have hI3 := hI2.text Qi.lives hF2 hb3
      have hF3 : ∀ b ∈ f, b < w3.heap.size := fun b hb => Nat.lt_of_lt_of_le (hF2 b hb) hb3.size
      have S4 := S3.set (j := 2) (by omega) (.string (Pl.mkX r))
      have S5 := S4.set (j := 3) (by omega) (.int .i64 ((r : Int) + 1))
      have S6 := S5.set (j := 4) (by omega) (.int .i64 ((r : Int) + 1 + 1))
      have S7 := S6.set (j := 5) (by omega) (.int .i64 ((r : Int) + 1 + 1 + 1))
      have hI7 := (((hI3.setg Qi.lives hgf (j * 7 + 2) (.string (Pl.mkX r))).setg Qi.lives hgf (j * 7 + 3) (.int .i64 ((r : Int) + 1))).setg Qi.lives hgf (j * 7 + 4) (.int .i64 ((r : Int) + 1 + 1))).setg Qi.lives hgf (j * 7 + 5) (.int .i64 ((r : Int) + 1 + 1 + 1))
      have d2 := S3.cur 2 _ rfl
      have d3 := S3.cur 3 _ rfl
      have d4 := S3.cur 4 _ rfl
      have d5 := S3.cur 5 _ rfl
      have f3 := S3.fro
      have e8 : (((r + 4 : Nat)) : Int) = (r : Int) + 1 + 1 + 1 + 1 := by omega
      rw [e8] at K15b
      have HF7 : Hid (∀ b ∈ f, b < ((((w3.setCell ⟨g, j * 7 + 2, none⟩ (.string (Pl.mkX r))).setCell ⟨g, j * 7 + 3, none⟩ (.int .i64 ((r : Int) + 1))).setCell ⟨g, j * 7 + 4, none⟩ (.int .i64 ((r : Int) + 1 + 1))).setCell ⟨g, j * 7 + 5, none⟩ (.int .i64 ((r : Int) + 1 + 1 + 1))).heap.size) := fun b hb => by simpa using hF3 b hb
      have HS7 := hideP S7
      have HI7 := hideP hI7
      clear hb3 S2 S4 S5 S6 S7 hI7 hI3 hI2 hF2 S3 K15 e8 hF3
      go_wp2_with fail
      refine (K15b.out _).mono ?_
      rintro e w8 ⟨rfl, hb8⟩
      have S8 := HS7.out.text hb8
      have hI8 := HI7.out.text Qi.lives HF7.out hb8
      have S9 := S8.set (j := 6) (by omega) (.string (Pl.mkX (r + 4)))
      have hI9 := hI8.setg Qi.lives hgf (j * 7 + 6) (.string (Pl.mkX (r + 4)))
      have d6 := S8.cur 6 _ rfl
      have f8 := S8.fro
      have HP : Hid (HdS (w8.setCell ⟨g, j * 7 + 6, none⟩ (.string (Pl.mkX (r + 4)))) (.slice (some ⟨g, 0, none⟩) n cap) ((Pl.mkS m (c.take (j + 1))).1 ++ c.drop (j + 1)) F) := by
        show HdS _ _ _ _
        rw [← HNX.out]
        refine HPUT.out _ _ (Pl.mkSv t s).1 S9 ⟨.slice a1 nl c1, ?_, ?_⟩
        · rw [HSV.out]
          have q1 : (((r + 1 : Nat)) : Int) = (r : Int) + 1 := by omega
          have q2 : (((r + 2 : Nat)) : Int) = (r : Int) + 1 + 1 := by omega
          have q3 : (((r + 3 : Nat)) : Int) = (r : Int) + 1 + 1 + 1 := by omega
          show _ = [Value.int .i64 (t : Int), .slice a1 nl c1, .string (Pl.mkX r), .int .i64 ((r + 1 : Nat) : Int), .int .i64 ((r + 2 : Nat) : Int), .int .i64 ((r + 3 : Nat) : Int), .string (Pl.mkX (r + 4))]
          rw [q1, q2, q3]
          rfl
        · rw [HSV.out]
          exact hI9
      have HW2 := hideP (HW.out.trans (S9.wt HG.out HF.out))
      have HK2 : Hid ((Pl.mkS m (c.take (j + 1))).2 = r + 5) := by show _ = _; rw [HT2.out, HSV.out]
      clear S8 hI8 S9 hI9 hb8 HS7 HI7 HF7 K15b HPUT HNX HT2 HSV
      go_wp2_with fail
      go_roundw
      case rel => exact ⟨j + 1, by omega, by go_num, by rw [HK2.out]; go_num, HP, HW2⟩
      case measure => simp [intOf]; omega
    · obtain rfl : j = n := by omega
      have e : Pl.mkS m (c.take j) = Pl.mkS m c := Pl.mk_whole Pl.mkSv (c := c) (i := j) (by rw [HN.out]; exact Nat.le_refl _) m
      have HF : Hid (HdS wr (.slice ao j cap) (Pl.mkS m c).1 F) := by
        have := HH.out
        rw [e, List.drop_of_length_le (by rw [HN.out]; exact Nat.le_refl _), List.append_nil] at this
        exact this
      rw [e]
      clear HH H0 HLE e
      go_wp2_with fail
      go_ret
      exact ⟨rfl, HF.out, HW.out⟩
theorem Hd.wt {α : Type} {z : Nat} {Q : World → List Value → α → List Nat → Prop} (L : Lives Q) {w w' : World} {v : Value} {c : List α} {F G : List Nat} (h : Hd z Q w v c F) (hF : ∀ b ∈ F, b < w.heap.size) (hw : Wt w w' G) (hd : ∀ b ∈ F, b ∉ G) : Hd z Q w' v c F :=
  h.keep L (fun b hm => hw.block b (hF b hm) (hd b hm))
set_option maxHeartbeats 4000000 in
/-- laws.markGuardS -/
theorem markGuardS_any (v : Value) (m : Nat) (c : List Pl.Gv) (F : List Nat) (w : World) (h1 : 1 ≤ m) (hlc : c.length ≤ 16777216) (hb : (Pl.mkG m c).2 ≤ 1099511627776) (h : HdG w v c F) :
    Calls Tryd.prog 17 #[v, .int .i64 (m : Int)] w fun e w' => e = .returned (.int .i64 ((Pl.mkG m c).2 : Nat)) ∧ HdG w' v (Pl.mkG m c).1 F ∧ Wt w w' F := by
  obtain ⟨ao, cap, rfl⟩ := h.form
  generalize hn : c.length = n at h hlc ⊢
  have HN := hideP hn
  have HLE : Hid (∀ i (h : i < c.length), (Pl.mkGv (Pl.mkG m (c.take i)).2 c[i]).2 ≤ 1099511627776) := fun i h => Nat.le_trans (Pl.mk_le Pl.mkGv_ge h m) hb
  have H0 : Hid (HdG w (.slice ao n cap) ((Pl.mkG m (c.take 0)).1 ++ c.drop 0) F) := h
  clear h hn hb
  go_enter Tryd.func17, Tryd.ntmps17
  go_wp2_with fail
  go_loopw [1, 5] (fun k i wr => ∃ j : Nat, j ≤ n ∧ i = .int .i64 j ∧ k = .int .i64 ((Pl.mkG m (c.take j)).2 : Nat) ∧ Hid (HdG wr (.slice ao n cap) ((Pl.mkG m (c.take j)).1 ++ c.drop j) F) ∧ Hid (Wt w wr F)) (fun _ i _ => n - (intOf i).toNat)
  case atStart => exact ⟨0, Nat.zero_le _, rfl, rfl, H0, Wt.refl _ _⟩
  case round =>
    obtain ⟨j, hj, rfl, rfl, HH, HW⟩ := hrel
    by_cases hlt : j < n
    · have hjn : j < c.length := by rw [HN.out]; exact hlt
      have hlt' : (j : Int) < (n : Int) := by omega
      have hle := HLE.out j hjn
      have hh := HH.out
      rw [split_at hjn] at hh
      obtain ⟨g, cap', x, f, hv, hQ, hS, hg, hf, hfn, hfl, put⟩ := hh.focus Qg'.lives Qg'.len
      have hml : (Pl.mkG m (c.take j)).1.length = j := Pl.mk_tlen _ (by omega) m
      rw [hml] at hS put
      have hao : ao = some ⟨g, 0, none⟩ := (Value.slice.inj hv).1
      subst hao
      have hT : Pl.mkG m (c.take (j + 1)) = ((Pl.mkG m (c.take j)).1 ++ [(Pl.mkGv (Pl.mkG m (c.take j)).2 c[j]).1], (Pl.mkGv (Pl.mkG m (c.take j)).2 c[j]).2) := Pl.mkL_take Pl.mkGv hjn m
      have HNX : Hid ((Pl.mkG m (c.take j)).1 ++ (Pl.mkGv (Pl.mkG m (c.take j)).2 c[j]).1 :: c.drop (j + 1) = (Pl.mkG m (c.take (j + 1))).1 ++ c.drop (j + 1)) := Pl.mk_next Pl.mkGv hjn m
      have hm1 : m ≤ (Pl.mkG m (c.take j)).2 := Pl.mk_tk Pl.mkGv_ge c j m
      have hT2 : (Pl.mkG m (c.take (j + 1))).2 = (Pl.mkGv (Pl.mkG m (c.take j)).2 c[j]).2 := by rw [hT]
      have HPUT := hideP (fun w' x' a' h1 h2 => put w' x' a' h1 h2)
      have HF := hideP hf
      have HG := hideP hg
      have HT2 := hideP hT2
      clear hT hT2 put hh HH H0 HLE hv hml hf hg
      generalize Pl.mkG m (c.take j) = M at *
      generalize c[j] = s at *
      obtain ⟨M1, t⟩ := M
      obtain ⟨v1, v2, f1, f2, rfl, rfl, hA, hB⟩ := hQ
      obtain ⟨a1, c1, rfl⟩ := hA.form
      obtain ⟨a2, c2, rfl⟩ := hB.form
      have hle2 : (Pl.mkS (Pl.mkS t s.test).2 s.thn).2 ≤ 1099511627776 := hle
      have hge1 : t ≤ (Pl.mkS t s.test).2 := Pl.mkL_ge Pl.mkSv_ge _ _
      have hge2 : (Pl.mkS t s.test).2 ≤ (Pl.mkS (Pl.mkS t s.test).2 s.thn).2 := Pl.mkL_ge Pl.mkSv_ge _ _
      have HSV : Hid (Pl.mkGv t s = (⟨(Pl.mkS t s.test).1, (Pl.mkS (Pl.mkS t s.test).2 s.thn).1⟩, (Pl.mkS (Pl.mkS t s.test).2 s.thn).2)) := rfl
      simp only at hm1
      rw [List.nodup_append] at hfn
      obtain ⟨_, _, hdj⟩ := hfn
      have hd12 : ∀ b ∈ f1, b ∉ f2 := fun b hb hb2 => hdj b hb b hb2 rfl
      have hd21 : ∀ b ∈ f2, b ∉ f1 := fun b hb hb2 => hdj b hb2 b hb rfl
      have hl1 : ∀ b ∈ f1, b < wr.heap.size := fun b hb => hfl b (by simp [hb])
      have hl2 : ∀ b ∈ f2, b < wr.heap.size := fun b hb => hfl b (by simp [hb])
      have c0 := hS.cur 0 _ rfl
      have K16 := hideP (markStepS_any (.slice a1 s.test.length c1) t s.test f1 wr (by omega) (by omega) hA)
      have K16b := hideP (fun (w : World) (h : HdS w (.slice a2 s.thn.length c2) s.thn f2) => markStepS_any (.slice a2 s.thn.length c2) (Pl.mkS t s.test).2 s.thn f2 w (by omega) hle2 h)
      generalize Pl.mkS t s.test = R1 at *
      obtain ⟨L1, r1⟩ := R1
      generalize Pl.mkS r1 s.thn = R2 at *
      obtain ⟨L2, r2⟩ := R2
      generalize s.test.length = n1 at *
      generalize s.thn.length = n2 at *
      simp only at K16 K16b hle2 hge1 hge2 HSV
      clear hdj hfl hle
      simp only [Nat.add_zero] at c0
      go_wp2_with fail
      refine K16.out.mono ?_
      rintro e w2 ⟨rfl, hA2, hW2⟩
      have S2 := hS.inner hW2 (fun b hb => by simp [hb])
      have hB2 := hB.wt Qs'.lives hl2 hW2 hd21
      have d1 := S2.cur 1 _ rfl
      have hl1' : ∀ b ∈ f1, b < w2.heap.size := fun b hb => Nat.lt_of_lt_of_le (hl1 b hb) hW2.size
      have k2 := hideP (K16b.out w2 hB2)
      clear hW2 hS hB K16 K16b hB2 c0
      go_wp2_with fail
      refine k2.out.mono ?_
      rintro e w3 ⟨rfl, hB3, hW3⟩
      have S3 := S2.inner hW3 (fun b hb => by simp [hb])
      have hA3 := hA2.wt Qs'.lives hl1' hW3 hd12
      have HP : Hid (HdG w3 (.slice (some ⟨g, 0, none⟩) n cap) ((Pl.mkG m (c.take (j + 1))).1 ++ c.drop (j + 1)) F) := by
        show HdG _ _ _ _
        rw [← HNX.out]
        refine HPUT.out _ _ (Pl.mkGv t s).1 S3 ⟨.slice a1 n1 c1, .slice a2 n2 c2, f1, f2, rfl, rfl, ?_, ?_⟩
        · rw [HSV.out]
          exact hA3
        · rw [HSV.out]
          exact hB3
      have HW2 := hideP (HW.out.trans (S3.wt HG.out HF.out))
      have HK2 : Hid ((Pl.mkG m (c.take (j + 1))).2 = r2) := by show _ = _; rw [HT2.out, HSV.out]
      clear S2 S3 hA2 hA3 hB3 hW3 HPUT HNX HT2 HSV k2 hA d1
      go_wp2_with fail
      go_roundw
      case rel => exact ⟨j + 1, by omega, by go_num, by rw [HK2.out], HP, HW2⟩
      case measure => simp [intOf]; omega
    · obtain rfl : j = n := by omega
      have e : Pl.mkG m (c.take j) = Pl.mkG m c := Pl.mk_whole Pl.mkGv (c := c) (i := j) (by rw [HN.out]; exact Nat.le_refl _) m
      have HF : Hid (HdG wr (.slice ao j cap) (Pl.mkG m c).1 F) := by
        have := HH.out
        rw [e, List.drop_of_length_le (by rw [HN.out]; exact Nat.le_refl _), List.append_nil] at this
        exact this
      rw [e]
      clear HH H0 HLE e
      go_wp2_with fail
      go_ret
      exact ⟨rfl, HF.out, HW.out⟩
set_option maxHeartbeats 4000000 in
/-- laws.markStmtS -/
theorem markStmtS_any (v : Value) (m : Nat) (c : List Pl.Tv) (F : List Nat) (w : World) (h1 : 1 ≤ m) (hgl : ∀ t ∈ c, t.gs.length ≤ 16777216) (hb : (Pl.mkP m c).2 ≤ 1099511627776) (h : HdP w v c F) :
    Calls Tryd.prog 7 #[v, .int .i64 (m : Int)] w fun e w' => e = .returned (.int .i64 ((Pl.mkP m c).2 : Nat)) ∧ HdP w' v (Pl.mkP m c).1 F ∧ Wt w w' F := by
  obtain ⟨ao, cap, rfl⟩ := h.form
  have hlc : c.length ≤ 1099511627776 := by have : m + c.length ≤ (Pl.mkP m c).2 := Pl.mkL_len2 Pl.mkTv_gt c m; omega
  generalize hn : c.length = n at h hlc ⊢
  have HN := hideP hn
  have HLE : Hid (∀ i (h : i < c.length), (Pl.mkTv (Pl.mkP m (c.take i)).2 c[i]).2 ≤ 1099511627776 ∧ c[i].gs.length ≤ 16777216) := fun i h => ⟨Nat.le_trans (Pl.mk_le Pl.mkTv_ge h m) hb, hgl _ (List.getElem_mem h)⟩
  have H0 : Hid (HdP w (.slice ao n cap) ((Pl.mkP m (c.take 0)).1 ++ c.drop 0) F) := h
  clear h hn hb hgl
  go_enter Tryd.func7, Tryd.ntmps7
  go_wp2_with fail
  go_loopw [1, 5] (fun k i wr => ∃ j : Nat, j ≤ n ∧ i = .int .i64 j ∧ k = .int .i64 ((Pl.mkP m (c.take j)).2 : Nat) ∧ Hid (HdP wr (.slice ao n cap) ((Pl.mkP m (c.take j)).1 ++ c.drop j) F) ∧ Hid (Wt w wr F)) (fun _ i _ => n - (intOf i).toNat)
  case atStart => exact ⟨0, Nat.zero_le _, rfl, rfl, H0, Wt.refl _ _⟩
  case round =>
    obtain ⟨j, hj, rfl, rfl, HH, HW⟩ := hrel
    by_cases hlt : j < n
    · have hjn : j < c.length := by rw [HN.out]; exact hlt
      have hlt' : (j : Int) < (n : Int) := by omega
      obtain ⟨hle, hgl⟩ := HLE.out j hjn
      have hh := HH.out
      rw [split_at hjn] at hh
      obtain ⟨g, cap', x, f, hv, hQ, hS, hg, hf, hfn, hfl, put⟩ := hh.focus Qt'.lives Qt'.len
      have hml : (Pl.mkP m (c.take j)).1.length = j := Pl.mk_tlen _ (by omega) m
      rw [hml] at hS put
      have hao : ao = some ⟨g, 0, none⟩ := (Value.slice.inj hv).1
      subst hao
      have hT : Pl.mkP m (c.take (j + 1)) = ((Pl.mkP m (c.take j)).1 ++ [(Pl.mkTv (Pl.mkP m (c.take j)).2 c[j]).1], (Pl.mkTv (Pl.mkP m (c.take j)).2 c[j]).2) := Pl.mkL_take Pl.mkTv hjn m
      have HNX : Hid ((Pl.mkP m (c.take j)).1 ++ (Pl.mkTv (Pl.mkP m (c.take j)).2 c[j]).1 :: c.drop (j + 1) = (Pl.mkP m (c.take (j + 1))).1 ++ c.drop (j + 1)) := Pl.mk_next Pl.mkTv hjn m
      have hm1 : m ≤ (Pl.mkP m (c.take j)).2 := Pl.mk_tk Pl.mkTv_ge c j m
      have hT2 : (Pl.mkP m (c.take (j + 1))).2 = (Pl.mkTv (Pl.mkP m (c.take j)).2 c[j]).2 := by rw [hT]
      have HPUT := hideP (fun w' x' a' h1 h2 => put w' x' a' h1 h2)
      have HF := hideP hf
      have HG := hideP hg
      have HT2 := hideP hT2
      clear hT hT2 put hh HH H0 HLE hv hml hf hg
      generalize Pl.mkP m (c.take j) = M at *
      generalize c[j] = s at *
      obtain ⟨M1, t⟩ := M
      obtain ⟨v1, v2, f1, f2, rfl, rfl, hA, hB⟩ := hQ
      obtain ⟨a1, c1, rfl⟩ := hA.form
      obtain ⟨a2, c2, rfl⟩ := hB.form
      have hle2 : (Pl.mkG (Pl.mkS (t + 2) s.code).2 s.gs).2 ≤ 1099511627776 := hle
      have hge1 : t + 2 ≤ (Pl.mkS (t + 2) s.code).2 := Pl.mkL_ge Pl.mkSv_ge _ _
      have hge2 : (Pl.mkS (t + 2) s.code).2 ≤ (Pl.mkG (Pl.mkS (t + 2) s.code).2 s.gs).2 := Pl.mkL_ge Pl.mkGv_ge _ _
      have HSV : Hid (Pl.mkTv t s = (⟨t, (Pl.mkX (t + 1)).data.toList, (Pl.mkS (t + 2) s.code).1, (Pl.mkG (Pl.mkS (t + 2) s.code).2 s.gs).1⟩, (Pl.mkG (Pl.mkS (t + 2) s.code).2 s.gs).2)) := rfl
      simp only at hm1
      rw [List.nodup_append] at hfn
      obtain ⟨_, _, hdj⟩ := hfn
      have hd12 : ∀ b ∈ f1, b ∉ f2 := fun b hb hb2 => hdj b hb b hb2 rfl
      have hd21 : ∀ b ∈ f2, b ∉ f1 := fun b hb hb2 => hdj b hb2 b hb rfl
      have hl1 : ∀ b ∈ f1, b < wr.heap.size := fun b hb => hfl b (by simp [hb])
      have hl2 : ∀ b ∈ f2, b < wr.heap.size := fun b hb => hfl b (by simp [hb])
      have hgf := hS.gf
      have hg1 : g ∉ f1 := fun hm => hgf (by simp [hm])
      have hg2 : g ∉ f2 := fun hm => hgf (by simp [hm])
      have c0 := hS.cur 0 _ rfl
      have f0 := hS.fro
      have K15 := hideP (fun w => markText_any (t + 1) w (by omega) (by omega))
      have K16 := hideP (fun (w : World) (h : HdS w (.slice a1 s.code.length c1) s.code f1) => markStepS_any (.slice a1 s.code.length c1) (t + 2) s.code f1 w (by omega) (by omega) h)
      have K17 := hideP (fun (w : World) (h : HdG w (.slice a2 s.gs.length c2) s.gs f2) => markGuardS_any (.slice a2 s.gs.length c2) (Pl.mkS (t + 2) s.code).2 s.gs f2 w (by omega) hgl hle2 h)
      generalize Pl.mkS (t + 2) s.code = R1 at *
      obtain ⟨L1, r1⟩ := R1
      generalize Pl.mkG r1 s.gs = R2 at *
      obtain ⟨L2, r2⟩ := R2
      generalize s.code.length = n1 at *
      generalize s.gs.length = n2 at *
      simp only at K16 K17 hle2 hge1 hge2 HSV
      have e1 : (((t + 1 : Nat)) : Int) = (t : Int) + 1 := by omega
      have e2 : (((t + 2 : Nat)) : Int) = (t : Int) + 1 + 1 := by omega
      rw [e1] at K15
      rw [e2] at K16
      have S1 := hS.set (j := 0) (by omega) (.int .i64 (t : Int))
      simp only [Nat.add_zero] at c0 S1
      have hA1 := hA.setg Qs'.lives hg1 (j * 4) (.int .i64 (t : Int))
      have hB1 := hB.setg Qg'.lives hg2 (j * 4) (.int .i64 (t : Int))
      have HL1 : Hid (∀ b ∈ f1, b < (wr.setCell ⟨g, j * 4, none⟩ (.int .i64 (t : Int))).heap.size) := fun b hb => by simpa using hl1 b hb
      have HL2 : Hid (∀ b ∈ f2, b < (wr.setCell ⟨g, j * 4, none⟩ (.int .i64 (t : Int))).heap.size) := fun b hb => by simpa using hl2 b hb
      clear hdj hfl hle hl1 hl2 e1 e2 hS hA hB
      go_wp2_with fail
      refine (K15.out _).mono ?_
      rintro e w2 ⟨rfl, hb2⟩
      have S2 := S1.text hb2
      have hA2 := hA1.text Qs'.lives HL1.out hb2
      have hB2 := hB1.text Qg'.lives HL2.out hb2
      have hl1 : ∀ b ∈ f1, b < w2.heap.size := fun b hb => Nat.lt_of_lt_of_le (HL1.out b hb) hb2.size
      have hl2 : ∀ b ∈ f2, b < w2.heap.size := fun b hb => Nat.lt_of_lt_of_le (HL2.out b hb) hb2.size
      have S3 := S2.set (j := 1) (by omega) (.string (Pl.mkX (t + 1)))
      have hA3 := hA2.setg Qs'.lives hg1 (j * 4 + 1) (.string (Pl.mkX (t + 1)))
      have hB3 := hB2.setg Qg'.lives hg2 (j * 4 + 1) (.string (Pl.mkX (t + 1)))
      have d1 := S2.cur 1 _ rfl
      have d2 := S2.cur 2 _ rfl
      have fr2 := S2.fro
      have k16 := hideP (K16.out _ hA3)
      have HL3 : Hid (∀ b ∈ f1, b < (w2.setCell ⟨g, j * 4 + 1, none⟩ (.string (Pl.mkX (t + 1)))).heap.size) := fun b hb => by simpa using hl1 b hb
      have HL4 : Hid (∀ b ∈ f2, b < (w2.setCell ⟨g, j * 4 + 1, none⟩ (.string (Pl.mkX (t + 1)))).heap.size) := fun b hb => by simpa using hl2 b hb
      clear hb2 hA1 hB1 hA2 hB2 S1 S2 c0 f0 HL1 HL2 K15 K16 hl1 hl2
      go_wp2_with fail
      refine k16.out.mono ?_
      rintro e w3 ⟨rfl, hA4, hW4⟩
      have S4 := S3.inner hW4 (fun b hb => by simp [hb])
      have hB4 := hB3.wt Qg'.lives HL4.out hW4 hd21
      have d3 := S4.cur 3 _ rfl
      have hl1 : ∀ b ∈ f1, b < w3.heap.size := fun b hb => Nat.lt_of_lt_of_le (HL3.out b hb) hW4.size
      have k17 := hideP (K17.out w3 hB4)
      clear hW4 hA3 hB3 S3 d1 d2 fr2 k16 K17 HL3 HL4 hB4
      go_wp2_with fail
      refine k17.out.mono ?_
      rintro e w4 ⟨rfl, hB5, hW5⟩
      have S5 := S4.inner hW5 (fun b hb => by simp [hb])
      have hA5 := hA4.wt Qs'.lives hl1 hW5 hd12
      have HP : Hid (HdP w4 (.slice (some ⟨g, 0, none⟩) n cap) ((Pl.mkP m (c.take (j + 1))).1 ++ c.drop (j + 1)) F) := by
        show HdP _ _ _ _
        rw [← HNX.out]
        refine HPUT.out _ _ (Pl.mkTv t s).1 S5 ⟨.slice a1 n1 c1, .slice a2 n2 c2, f1, f2, ?_, rfl, ?_, ?_⟩
        · rw [HSV.out]
          rfl
        · rw [HSV.out]
          exact hA5
        · rw [HSV.out]
          exact hB5
      have HW2 := hideP (HW.out.trans (S5.wt HG.out HF.out))
      have HK2 : Hid ((Pl.mkP m (c.take (j + 1))).2 = r2) := by show _ = _; rw [HT2.out, HSV.out]
      clear S4 S5 hA4 hA5 hB5 hW5 HPUT HNX HT2 HSV k17 d3
      go_wp2_with fail
      go_roundw
      case rel => exact ⟨j + 1, by omega, by go_num, by rw [HK2.out], HP, HW2⟩
      case measure => simp [intOf]; omega
    · obtain rfl : j = n := by omega
      have e : Pl.mkP m (c.take j) = Pl.mkP m c := Pl.mk_whole Pl.mkTv (c := c) (i := j) (by rw [HN.out]; exact Nat.le_refl _) m
      have HF : Hid (HdP wr (.slice ao j cap) (Pl.mkP m c).1 F) := by
        have := HH.out
        rw [e, List.drop_of_length_le (by rw [HN.out]; exact Nat.le_refl _), List.append_nil] at this
        exact this
      rw [e]
      clear HH H0 HLE e
      go_wp2_with fail
      go_ret
      exact ⟨rfl, HF.out, HW.out⟩
end Go.Proofs.YtljkolffjjhgeaaDoor
