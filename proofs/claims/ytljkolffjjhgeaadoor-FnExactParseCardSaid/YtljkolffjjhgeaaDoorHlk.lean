import Derived.Test.YtljkolffjjhgeaaDoorMku
import Derived.Test.YtljkolffjjhgeaaDoorExa
import Derived.Test.YtljkolffjjhgeaaDoorStp
namespace Go.Proofs.YtljkolffjjhgeaaDoor
open Go.RowKit
set_option linter.unusedVariables false
set_option maxRecDepth 100000
theorem exec_idx34 {o : Oper} {a : Act} (x y : Operand) (b n cap i : Nat) (ho : o.op = Op.indexAddr 34 x y) (hx : a.eval x = .slice (some ⟨b, 0, none⟩) n cap) (hy : a.eval y = .int .i64 (i : Int)) (hi : i < n) (w : World) : (execOp a.eval o).run Tryd.prog w = .ok (.value (.pointer (some ⟨b, i * 7, none⟩))) w := by
  have h1 : ¬ ((i : Int) < 0) := by omega
  have h2 : (i : Int) < (n : Int) := by omega
  simp only [execOp, ho, hx, hy]
  go_simp
theorem exec_idx22 {o : Oper} {a : Act} (x y : Operand) (b n cap i : Nat) (ho : o.op = Op.indexAddr 22 x y) (hx : a.eval x = .slice (some ⟨b, 0, none⟩) n cap) (hy : a.eval y = .int .i64 (i : Int)) (hi : i < n) (w : World) : (execOp a.eval o).run Tryd.prog w = .ok (.value (.pointer (some ⟨b, i * 4, none⟩))) w := by
  have h1 : ¬ ((i : Int) < 0) := by omega
  have h2 : (i : Int) < (n : Int) := by omega
  simp only [execOp, ho, hx, hy]
  go_simp
theorem exec_f81_2 {o : Oper} {a : Act} (x : Operand) (b k : Nat) (ho : o.op = Op.fieldAddr 81 x 2) (hx : a.eval x = .pointer (some ⟨b, k, none⟩)) (w : World) : (execOp a.eval o).run Tryd.prog w = .ok (.value (.pointer (some ⟨b, k + 2, none⟩))) w := by
  simp only [execOp, ho, hx]
  go_simp
theorem exec_f81_3 {o : Oper} {a : Act} (x : Operand) (b k : Nat) (ho : o.op = Op.fieldAddr 81 x 3) (hx : a.eval x = .pointer (some ⟨b, k, none⟩)) (w : World) : (execOp a.eval o).run Tryd.prog w = .ok (.value (.pointer (some ⟨b, k + 3, none⟩))) w := by
  simp only [execOp, ho, hx]
  go_simp
theorem exec_f79_3 {o : Oper} {a : Act} (x : Operand) (b k : Nat) (ho : o.op = Op.fieldAddr 79 x 3) (hx : a.eval x = .pointer (some ⟨b, k, none⟩)) (w : World) : (execOp a.eval o).run Tryd.prog w = .ok (.value (.pointer (some ⟨b, k + 3, none⟩))) w := by
  simp only [execOp, ho, hx]
  go_simp
theorem exec_f37_1 {o : Oper} {a : Act} (x : Operand) (b k : Nat) (ho : o.op = Op.fieldAddr 37 x 1) (hx : a.eval x = .pointer (some ⟨b, k, none⟩)) (w : World) : (execOp a.eval o).run Tryd.prog w = .ok (.value (.pointer (some ⟨b, k + 1, none⟩))) w := by
  simp only [execOp, ho, hx]
  go_simp
theorem exec_neq9 {o : Oper} {a : Act} (x y : Operand) (s : ByteArray) (ho : o.op = Op.binOp BinOp.neq 9 x y 9) (hx : a.eval x = .string s) (hy : a.eval y = .string s) (w : World) : (execOp a.eval o).run Tryd.prog w = .ok (.value (.bool false)) w := by
  have q0 : (s.toList == s.toList) = true := by simp
  simp only [execOp, ho, hx, hy]
  go_simp
theorem enter15 : ∀ args w, (callFunc 15 args).run Tryd.prog w = .ok (.enter 15 args) w := enters_of Tryd.func15 (by kernel_rfl) rfl
theorem Pl.mk1_gt (m : Nat) (a : Int) : m + 1 ≤ (Pl.mk1 m a).2 := Nat.le_refl _
theorem Hd.bel {α : Type} {z : Nat} {Q : World → List Value → α → List Nat → Prop} (L : Lives Q) {w w' : World} {v : Value} {c : List α} {F : List Nat} (h : Hd z Q w v c F) (hF : ∀ b ∈ F, b < w.heap.size) (hb : Below w.heap.size w w') : Hd z Q w' v c F :=
  h.keep L (fun b hm => hb.block b (hF b hm))
set_option maxHeartbeats 4000000 in
/-- laws.heldIntS -/
theorem heldIntS_any (v : Value) (m : Nat) (c : List Int) (F : List Nat) (w : World) (h1 : 1 ≤ m) (hb : (Pl.mkI m c).2 ≤ 1099511627776) (h : HdI w v (Pl.mkI m c).1 F) :
    Calls Tryd.prog 38 #[v, .int .i64 (m : Int)] w fun e w' => e = .returned (.int .i64 ((Pl.mkI m c).2 : Nat)) ∧ w' = w := by
  obtain ⟨ao, cap, rfl⟩ := h.form
  have hcl : (Pl.mkI m c).1.length = c.length := Pl.mkL_len _ _ _
  rw [hcl] at h ⊢
  clear hcl
  have hlc : c.length ≤ 1099511627776 := by have : m + c.length ≤ (Pl.mkI m c).2 := Pl.mkL_len2 Pl.mk1_gt c m; omega
  generalize hn : c.length = n at h hlc ⊢
  have HN := hideP hn
  have HLE : Hid (∀ i (h : i < c.length), (Pl.mk1 (Pl.mkI m (c.take i)).2 c[i]).2 ≤ 1099511627776) := fun i h => Nat.le_trans (Pl.mk_le Pl.mk1_ge h m) hb
  have H0 : Hid (HdI w (.slice ao n cap) (Pl.mkI m c).1 F) := h
  clear h hn hb
  go_enter Tryd.func38, Tryd.ntmps38
  go_wp2_with fail
  go_loopw [1, 5] (fun k i wr => ∃ j : Nat, j ≤ n ∧ i = .int .i64 j ∧ k = .int .i64 ((Pl.mkI m (c.take j)).2 : Nat) ∧ wr = w) (fun _ i _ => n - (intOf i).toNat)
  case atStart => exact ⟨0, Nat.zero_le _, rfl, rfl, rfl⟩
  case round =>
    obtain ⟨j, hj, rfl, rfl, rfl⟩ := hrel
    by_cases hlt : j < n
    · have hjn : j < c.length := by rw [HN.out]; exact hlt
      have hlt' : (j : Int) < (n : Int) := by omega
      have hle := HLE.out j hjn
      have hh := H0.out
      rw [show Pl.mkI m c = _ from Pl.mkL_at Pl.mk1 hjn m] at hh
      obtain ⟨g, cap', x, f, hv, hQ, hS, hg, hf, hfn, hfl, _⟩ := hh.focus Qi.lives Qi.len'
      have hml : (Pl.mkI m (c.take j)).1.length = j := Pl.mk_tlen _ (by omega) m
      have hS' : Sd 1 wr wr g j f x := by
        have := hS
        rw [show (Pl.mkL Pl.mk1 m (c.take j)).1.length = j from hml] at this
        exact this
      have hao : ao = some ⟨g, 0, none⟩ := (Value.slice.inj hv).1
      subst hao
      have hT : Pl.mkI m (c.take (j + 1)) = ((Pl.mkI m (c.take j)).1 ++ [(Pl.mk1 (Pl.mkI m (c.take j)).2 c[j]).1], (Pl.mk1 (Pl.mkI m (c.take j)).2 c[j]).2) := Pl.mkL_take Pl.mk1 hjn m
      have hm1 : m ≤ (Pl.mkI m (c.take j)).2 := Pl.mk_tk Pl.mk1_ge c j m
      have HT2 : Hid ((Pl.mkI m (c.take (j + 1))).2 = (Pl.mk1 (Pl.mkI m (c.take j)).2 c[j]).2) := by show _ = _; rw [hT]
      have hQ' : Qi wr x (Pl.mk1 (Pl.mkI m (c.take j)).2 c[j]).1 f := hQ
      clear hT hh H0 HLE hv hml hf hg hS hQ
      generalize Pl.mkI m (c.take j) = M at *
      generalize c[j] = s at *
      obtain ⟨M1, t⟩ := M
      simp only at hm1 HT2 hQ' hle
      obtain ⟨rfl, rfl⟩ := hQ'
      have c0 := hS'.cur 0 _ rfl
      simp only [Nat.mul_one, Nat.add_zero, Pl.mk1] at c0
      have HK2 : Hid ((Pl.mkI m (c.take (j + 1))).2 = t + 1) := HT2
      have hle2 : t + 1 ≤ 1099511627776 := hle
      clear hS' HT2 hle
      go_wp2_with fail
      go_roundw
      case rel => exact ⟨j + 1, by omega, by go_num, by rw [HK2.out]; go_num, by first | rfl | trivial⟩
      case measure => simp [intOf]; omega
    · obtain rfl : j = n := by omega
      have e : Pl.mkI m (c.take j) = Pl.mkI m c := Pl.mk_whole Pl.mk1 (c := c) (i := j) (by rw [HN.out]; exact Nat.le_refl _) m
      rw [e]
      clear H0 HLE e
      go_wp2_with fail
      go_ret
      exact ⟨rfl, rfl⟩
set_option maxHeartbeats 4000000 in
/-- laws.heldStepS -/
theorem heldStepS_any (v : Value) (m : Nat) (c : List Pl.Sv) (F : List Nat) (w : World) (h1 : 1 ≤ m) (hb : (Pl.mkS m c).2 ≤ 1099511627776) (h : HdS w v (Pl.mkS m c).1 F) :
    Calls Tryd.prog 18 #[v, .int .i64 (m : Int)] w fun e w' => e = .returned (.int .i64 ((Pl.mkS m c).2 : Nat)) ∧ Below w.heap.size w w' := by
  obtain ⟨ao, cap, rfl⟩ := h.form
  have hcl : (Pl.mkS m c).1.length = c.length := Pl.mkL_len _ _ _
  rw [hcl] at h ⊢
  clear hcl
  have hlc : c.length ≤ 1099511627776 := by have : m + c.length ≤ (Pl.mkS m c).2 := Pl.mkL_len2 Pl.mkSv_gt c m; omega
  generalize hn : c.length = n at h hlc ⊢
  have HN := hideP hn
  have HLE : Hid (∀ i (h : i < c.length), (Pl.mkSv (Pl.mkS m (c.take i)).2 c[i]).2 ≤ 1099511627776) := fun i h => Nat.le_trans (Pl.mk_le Pl.mkSv_ge h m) hb
  have H0 : Hid (HdS w (.slice ao n cap) (Pl.mkS m c).1 F) := h
  clear h hn hb
  go_enter Tryd.func18, Tryd.ntmps18
  go_wp2_with fail
  go_loopw [1, 5] (fun k i wr => ∃ j : Nat, j ≤ n ∧ i = .int .i64 j ∧ k = .int .i64 ((Pl.mkS m (c.take j)).2 : Nat) ∧ Hid (Below w.heap.size w wr)) (fun _ i _ => n - (intOf i).toNat)
  case atStart => exact ⟨0, Nat.zero_le _, rfl, rfl, Below.refl _ _⟩
  case round =>
    obtain ⟨j, hj, rfl, rfl, BB⟩ := hrel
    by_cases hlt : j < n
    · have hjn : j < c.length := by rw [HN.out]; exact hlt
      have hlt' : (j : Int) < (n : Int) := by omega
      have hle := HLE.out j hjn
      have hh := H0.out
      rw [show Pl.mkS m c = _ from Pl.mkL_at Pl.mkSv hjn m] at hh
      obtain ⟨g, cap', x, f, hv, hQ, hS, hg, hf, hfn, hfl, _⟩ := hh.focus Qs'.lives Qs'.len
      have hml : (Pl.mkS m (c.take j)).1.length = j := Pl.mk_tlen _ (by omega) m
      have hS' : Sd 7 w w g j f x := by
        have := hS
        rw [show (Pl.mkL Pl.mkSv m (c.take j)).1.length = j from hml] at this
        exact this
      have hao : ao = some ⟨g, 0, none⟩ := (Value.slice.inj hv).1
      subst hao
      have hT : Pl.mkS m (c.take (j + 1)) = ((Pl.mkS m (c.take j)).1 ++ [(Pl.mkSv (Pl.mkS m (c.take j)).2 c[j]).1], (Pl.mkSv (Pl.mkS m (c.take j)).2 c[j]).2) := Pl.mkL_take Pl.mkSv hjn m
      have hm1 : m ≤ (Pl.mkS m (c.take j)).2 := Pl.mk_tk Pl.mkSv_ge c j m
      have HT2 : Hid ((Pl.mkS m (c.take (j + 1))).2 = (Pl.mkSv (Pl.mkS m (c.take j)).2 c[j]).2) := by show _ = _; rw [hT]
      have hQ' : Qs' w x (Pl.mkSv (Pl.mkS m (c.take j)).2 c[j]).1 f := hQ
      clear hT hh H0 HLE hv hml hf hg hS hQ
      generalize Pl.mkS m (c.take j) = M at *
      generalize c[j] = s at *
      obtain ⟨M1, t⟩ := M
      simp only at hm1 HT2 hQ' hle
      obtain ⟨nv, rfl, hI⟩ := hQ'
      have hle2 : (Pl.mkI (t + 1) s.nums).2 + 5 ≤ 1099511627776 := hle
      have hge2 : t + 1 ≤ (Pl.mkI (t + 1) s.nums).2 := Pl.mkL_ge Pl.mk1_ge _ _
      have HK2 : Hid ((Pl.mkS m (c.take (j + 1))).2 = (Pl.mkI (t + 1) s.nums).2 + 5) := HT2
      have CC : Hid (∀ W, Below w.heap.size w W → ∀ k u, [Value.int .i64 (t : Int), nv, .string (Pl.mkX (Pl.mkI (t + 1) s.nums).2), .int .i64 (((Pl.mkI (t + 1) s.nums).2 + 1 : Nat) : Int), .int .i64 (((Pl.mkI (t + 1) s.nums).2 + 2 : Nat) : Int), .int .i64 (((Pl.mkI (t + 1) s.nums).2 + 3 : Nat) : Int), .string (Pl.mkX ((Pl.mkI (t + 1) s.nums).2 + 4))][k]? = some u → W.cell? ⟨g, j * 7 + k, none⟩ = some u) := fun W hW k u hu => (hW.cell (p := ⟨g, j * 7 + k, none⟩) hS'.glt).trans (hS'.cur k u hu)
      have hI' : HdI w nv (Pl.mkI (t + 1) s.nums).1 f := hI
      obtain ⟨a1, c1, rfl⟩ := hI'.form
      rw [show (Pl.mkI (t + 1) s.nums).1.length = s.nums.length from Pl.mkL_len _ _ _] at hI' CC
      have K38 := hideP (heldIntS_any (.slice a1 s.nums.length c1) (t + 1) s.nums f wr (by omega) (by omega) (hI'.bel Qi.lives hfl BB.out))
      have e1 : (((t + 1 : Nat)) : Int) = (t : Int) + 1 := by omega
      rw [e1] at K38
      clear hI hI' HT2 hle e1
      generalize (Pl.mkI (t + 1) s.nums).2 = r at *
      generalize s.nums.length = nl at *
      have K15 := hideP (fun w => markText_any r w (by omega) (by omega))
      have K15b := hideP (fun w => markText_any (r + 4) w (by omega) (by omega))
      have e8 : (((r + 4 : Nat)) : Int) = (r : Int) + 1 + 1 + 1 + 1 := by omega
      rw [e8] at K15b
      have q1 : (((r + 1 : Nat)) : Int) = (r : Int) + 1 := by omega
      have q2 : (((r + 2 : Nat)) : Int) = (r : Int) + 1 + 1 := by omega
      have q3 : (((r + 3 : Nat)) : Int) = (r : Int) + 1 + 1 + 1 := by omega
      rw [q1, q2, q3] at CC
      have hr0 : ¬ ((r : Int) < 0) := by omega
      have c0 := CC.out wr BB.out 0 _ rfl
      have c1' := CC.out wr BB.out 1 _ rfl
      simp only [Nat.add_zero] at c0
      have D : Hid (Below w.heap.size w wr.drew) := BB.out.drew
      clear hS' e8 q1 q2 q3
      go_wp2_with (go_at_call 38; refine (K38.out).mono ?_; rintro e w' ⟨rfl, rfl⟩)
      refine wp_region_held (S := fun W => Below w.heap.size w W) (by kernel_rfl) ?_
      change wpAnyH _ _ _ _ _ _ _ _ (World.drew _)
      refine wpAnyH_take (i := 0) (v := .slice (some ⟨g, 0, none⟩) n cap) rfl (by kernel_rfl) (by kernel_rfl) (by kernel_rfl) (fun _ _ _ h => h) (Or.inl ⟨by rfl, fun W hW => exec_move (.tmp 0) (.slice (some ⟨g, 0, none⟩) n cap) rfl (by kernel_rfl) W⟩) D.out ?_
      refine wpAnyH_take (i := 1) (v := .int .i64 j) rfl (by kernel_rfl) (by kernel_rfl) (by kernel_rfl) (fun _ _ _ h => h) (Or.inl ⟨by rfl, fun W hW => exec_move (.tmp 5) (.int .i64 j) rfl (by kernel_rfl) W⟩) D.out ?_
      refine wpAnyH_take (i := 2) (v := .pointer (some ⟨g, j * 7, none⟩)) rfl (by kernel_rfl) (by kernel_rfl) (by kernel_rfl) (fun _ _ _ h => h) (Or.inl ⟨by rfl, fun W hW => exec_idx34 (.tmp 30) (.tmp 31) g n cap j rfl (by kernel_rfl) (by kernel_rfl) hlt W⟩) D.out ?_
      refine wpAnyH_take (i := 3) (v := .pointer (some ⟨g, j * 7 + 2, none⟩)) rfl (by kernel_rfl) (by kernel_rfl) (by kernel_rfl) (fun _ _ _ h => h) (Or.inl ⟨by rfl, fun W hW => exec_f81_2 (.tmp 32) g (j * 7) rfl (by kernel_rfl) W⟩) D.out ?_
      refine wpAnyH_take (i := 4) (v := .string (Pl.mkX r)) rfl (by kernel_rfl) (by kernel_rfl) (by kernel_rfl) (fun _ _ _ h => h) (Or.inl ⟨by rfl, fun W hW => exec_load9 (.tmp 33) g (j * 7 + 2) ((Pl.mkX r)) W rfl (by kernel_rfl) (CC.out W hW 2 _ rfl)⟩) D.out ?_
      refine wpAnyH_take (i := 5) (v := .int .i64 ((r : Int))) rfl (by kernel_rfl) (by kernel_rfl) (by kernel_rfl) (fun _ _ _ h => h) (Or.inl ⟨by rfl, fun W hW => exec_move (.tmp 1) (.int .i64 ((r : Int))) rfl (by kernel_rfl) W⟩) D.out ?_
      refine step_call (i := 6) (by kernel_rfl) rfl rfl 15 _ (exec_call1 15 enter15 (.tmp 35) (.int .i64 ((r : Int))) _ rfl (by kernel_rfl) _) ?_
      refine (K15.out _).mono ?_
      rintro e w2 ⟨rfl, hb2⟩
      have BB2 := hideP (D.out.trans (hb2.mono D.out.size))
      refine ⟨_, rfl, BB2.out, ?_⟩
      refine step_val (i := 7) (by kernel_rfl) rfl rfl (.bool false) (exec_neq9 (.tmp 34) (.tmp 36) ((Pl.mkX r)) rfl (by kernel_rfl) (by kernel_rfl) _) BB2.out ?_
      refine wpAnyH_done (by kernel_rfl) ?_ _
      go_simp
      clear hb2 D
      have d3 := CC.out w2 BB2.out 3 _ rfl
      have d4 := CC.out w2 BB2.out 4 _ rfl
      have d5 := CC.out w2 BB2.out 5 _ rfl
      have D : Hid (Below w.heap.size w w2.drew) := BB2.out.drew
      clear K38 K15 c0 c1'
      go_wp2_with fail
      refine wp_region_held (S := fun W => Below w.heap.size w W) (by kernel_rfl) ?_
      change wpAnyH _ _ _ _ _ _ _ _ (World.drew _)
      refine wpAnyH_take (i := 0) (v := .slice (some ⟨g, 0, none⟩) n cap) rfl (by kernel_rfl) (by kernel_rfl) (by kernel_rfl) (fun _ _ _ h => h) (Or.inl ⟨by rfl, fun W hW => exec_move (.tmp 0) (.slice (some ⟨g, 0, none⟩) n cap) rfl (by kernel_rfl) W⟩) D.out ?_
      refine wpAnyH_take (i := 1) (v := .int .i64 j) rfl (by kernel_rfl) (by kernel_rfl) (by kernel_rfl) (fun _ _ _ h => h) (Or.inl ⟨by rfl, fun W hW => exec_move (.tmp 5) (.int .i64 j) rfl (by kernel_rfl) W⟩) D.out ?_
      refine wpAnyH_take (i := 2) (v := .pointer (some ⟨g, j * 7, none⟩)) rfl (by kernel_rfl) (by kernel_rfl) (by kernel_rfl) (fun _ _ _ h => h) (Or.inl ⟨by rfl, fun W hW => exec_idx34 (.tmp 70) (.tmp 71) g n cap j rfl (by kernel_rfl) (by kernel_rfl) hlt W⟩) D.out ?_
      refine wpAnyH_take (i := 3) (v := .pointer (some ⟨g, j * 7 + 3, none⟩)) rfl (by kernel_rfl) (by kernel_rfl) (by kernel_rfl) (fun _ _ _ h => h) (Or.inl ⟨by rfl, fun W hW => exec_f81_3 (.tmp 72) g (j * 7) rfl (by kernel_rfl) W⟩) D.out ?_
      refine wpAnyH_take (i := 4) (v := .pointer (some ⟨g, j * 7 + 3 + 3, none⟩)) rfl (by kernel_rfl) (by kernel_rfl) (by kernel_rfl) (fun _ _ _ h => h) (Or.inl ⟨by rfl, fun W hW => exec_f79_3 (.tmp 73) g (j * 7 + 3) rfl (by kernel_rfl) W⟩) D.out ?_
      refine wpAnyH_take (i := 5) (v := .string (Pl.mkX (r + 4))) rfl (by kernel_rfl) (by kernel_rfl) (by kernel_rfl) (fun _ _ _ h => h) (Or.inl ⟨by rfl, fun W hW => exec_load9 (.tmp 74) g (j * 7 + 3 + 3) ((Pl.mkX (r + 4))) W rfl (by kernel_rfl) (CC.out W hW 6 _ rfl)⟩) D.out ?_
      refine wpAnyH_take (i := 6) (v := .int .i64 ((r : Int) + 1 + 1 + 1 + 1)) rfl (by kernel_rfl) (by kernel_rfl) (by kernel_rfl) (fun _ _ _ h => h) (Or.inl ⟨by rfl, fun W hW => exec_move (.tmp 1) (.int .i64 ((r : Int) + 1 + 1 + 1 + 1)) rfl (by kernel_rfl) W⟩) D.out ?_
      refine step_call (i := 7) (by kernel_rfl) rfl rfl 15 _ (exec_call1 15 enter15 (.tmp 76) (.int .i64 ((r : Int) + 1 + 1 + 1 + 1)) _ rfl (by kernel_rfl) _) ?_
      refine (K15b.out _).mono ?_
      rintro e w3 ⟨rfl, hb2⟩
      have BB3 := hideP (D.out.trans (hb2.mono D.out.size))
      refine ⟨_, rfl, BB3.out, ?_⟩
      refine step_val (i := 8) (by kernel_rfl) rfl rfl (.bool false) (exec_neq9 (.tmp 75) (.tmp 77) ((Pl.mkX (r + 4))) rfl (by kernel_rfl) (by kernel_rfl) _) BB3.out ?_
      refine wpAnyH_done (by kernel_rfl) ?_ _
      go_simp
      clear hb2 D
      clear K15b d3 d4 d5 BB2
      go_wp2_with fail
      go_roundw
      case rel => exact ⟨j + 1, by omega, by go_num, by rw [HK2.out]; go_num, BB3⟩
      case measure => simp [intOf]; omega
    · obtain rfl : j = n := by omega
      have e : Pl.mkS m (c.take j) = Pl.mkS m c := Pl.mk_whole Pl.mkSv (c := c) (i := j) (by rw [HN.out]; exact Nat.le_refl _) m
      rw [e]
      clear H0 HLE e
      go_wp2_with fail
      go_ret
      exact ⟨rfl, BB.out⟩
set_option maxHeartbeats 4000000 in
/-- laws.heldGuardS -/
theorem heldGuardS_any (v : Value) (m : Nat) (c : List Pl.Gv) (F : List Nat) (w : World) (h1 : 1 ≤ m) (hlc : c.length ≤ 16777216) (hb : (Pl.mkG m c).2 ≤ 1099511627776) (h : HdG w v (Pl.mkG m c).1 F) :
    Calls Tryd.prog 19 #[v, .int .i64 (m : Int)] w fun e w' => e = .returned (.int .i64 ((Pl.mkG m c).2 : Nat)) ∧ Below w.heap.size w w' := by
  obtain ⟨ao, cap, rfl⟩ := h.form
  have hcl : (Pl.mkG m c).1.length = c.length := Pl.mkL_len _ _ _
  rw [hcl] at h ⊢
  clear hcl
  generalize hn : c.length = n at h hlc ⊢
  have HN := hideP hn
  have HLE : Hid (∀ i (h : i < c.length), (Pl.mkGv (Pl.mkG m (c.take i)).2 c[i]).2 ≤ 1099511627776) := fun i h => Nat.le_trans (Pl.mk_le Pl.mkGv_ge h m) hb
  have H0 : Hid (HdG w (.slice ao n cap) (Pl.mkG m c).1 F) := h
  clear h hn hb
  go_enter Tryd.func19, Tryd.ntmps19
  go_wp2_with fail
  go_loopw [1, 5] (fun k i wr => ∃ j : Nat, j ≤ n ∧ i = .int .i64 j ∧ k = .int .i64 ((Pl.mkG m (c.take j)).2 : Nat) ∧ Hid (Below w.heap.size w wr)) (fun _ i _ => n - (intOf i).toNat)
  case atStart => exact ⟨0, Nat.zero_le _, rfl, rfl, Below.refl _ _⟩
  case round =>
    obtain ⟨j, hj, rfl, rfl, BB⟩ := hrel
    by_cases hlt : j < n
    · have hjn : j < c.length := by rw [HN.out]; exact hlt
      have hlt' : (j : Int) < (n : Int) := by omega
      have hle := HLE.out j hjn
      have hh := H0.out
      rw [show Pl.mkG m c = _ from Pl.mkL_at Pl.mkGv hjn m] at hh
      obtain ⟨g, cap', x, f, hv, hQ, hS, hg, hf, hfn, hfl, _⟩ := hh.focus Qg'.lives Qg'.len
      have hml : (Pl.mkG m (c.take j)).1.length = j := Pl.mk_tlen _ (by omega) m
      have hS' : Sd 2 w w g j f x := by
        have := hS
        rw [show (Pl.mkL Pl.mkGv m (c.take j)).1.length = j from hml] at this
        exact this
      have hao : ao = some ⟨g, 0, none⟩ := (Value.slice.inj hv).1
      subst hao
      have hT : Pl.mkG m (c.take (j + 1)) = ((Pl.mkG m (c.take j)).1 ++ [(Pl.mkGv (Pl.mkG m (c.take j)).2 c[j]).1], (Pl.mkGv (Pl.mkG m (c.take j)).2 c[j]).2) := Pl.mkL_take Pl.mkGv hjn m
      have hm1 : m ≤ (Pl.mkG m (c.take j)).2 := Pl.mk_tk Pl.mkGv_ge c j m
      have HT2 : Hid ((Pl.mkG m (c.take (j + 1))).2 = (Pl.mkGv (Pl.mkG m (c.take j)).2 c[j]).2) := by show _ = _; rw [hT]
      have hQ' : Qg' w x (Pl.mkGv (Pl.mkG m (c.take j)).2 c[j]).1 f := hQ
      clear hT hh H0 HLE hv hml hf hg hS hQ
      generalize Pl.mkG m (c.take j) = M at *
      generalize c[j] = s at *
      obtain ⟨M1, t⟩ := M
      simp only at hm1 HT2 hQ' hle
      obtain ⟨v1, v2, f1, f2, rfl, rfl, hA, hB⟩ := hQ'
      have hle2 : (Pl.mkS (Pl.mkS t s.test).2 s.thn).2 ≤ 1099511627776 := hle
      have hge1 : t ≤ (Pl.mkS t s.test).2 := Pl.mkL_ge Pl.mkSv_ge _ _
      have hge2 : (Pl.mkS t s.test).2 ≤ (Pl.mkS (Pl.mkS t s.test).2 s.thn).2 := Pl.mkL_ge Pl.mkSv_ge _ _
      have HK2 : Hid ((Pl.mkG m (c.take (j + 1))).2 = (Pl.mkS (Pl.mkS t s.test).2 s.thn).2) := HT2
      have hA' : HdS w v1 (Pl.mkS t s.test).1 f1 := hA
      have hB' : HdS w v2 (Pl.mkS (Pl.mkS t s.test).2 s.thn).1 f2 := hB
      obtain ⟨a1, c1, rfl⟩ := hA'.form
      obtain ⟨a2, c2, rfl⟩ := hB'.form
      have e1 : (Pl.mkS t s.test).1.length = s.test.length := Pl.mkL_len _ _ _
      have e2 : (Pl.mkS (Pl.mkS t s.test).2 s.thn).1.length = s.thn.length := Pl.mkL_len _ _ _
      have CC : Hid (∀ W, Below w.heap.size w W → ∀ k u, [Value.slice a1 s.test.length c1, .slice a2 s.thn.length c2][k]? = some u → W.cell? ⟨g, j * 2 + k, none⟩ = some u) := fun W hW k u hu => (hW.cell (p := ⟨g, j * 2 + k, none⟩) hS'.glt).trans (hS'.cur k u (by rw [e1, e2]; exact hu))
      rw [e1] at hA'
      rw [e2] at hB'
      have KA := hideP (fun (W : World) (hW : Below w.heap.size w W) => heldStepS_any (.slice a1 s.test.length c1) t s.test f1 W (by omega) (by omega) (hA'.bel Qs'.lives (fun b hb => hfl b (by simp [hb])) hW))
      have KB := hideP (fun (W : World) (hW : Below w.heap.size w W) => heldStepS_any (.slice a2 s.thn.length c2) (Pl.mkS t s.test).2 s.thn f2 W (by omega) hle2 (hB'.bel Qs'.lives (fun b hb => hfl b (by simp [hb])) hW))
      clear hA hB hA' hB' e1 e2 HT2 hle hS'
      generalize Pl.mkS t s.test = R1 at *
      obtain ⟨L1, r1⟩ := R1
      generalize Pl.mkS r1 s.thn = R2 at *
      obtain ⟨L2, r2⟩ := R2
      generalize s.test.length = n1 at *
      generalize s.thn.length = n2 at *
      simp only at KA KB hle2 hge1 hge2 HK2
      have hr1 : ¬ ((r1 : Int) < 0) := by omega
      have hr2 : ¬ ((r2 : Int) < 0) := by omega
      have c0 := CC.out wr BB.out 0 _ rfl
      simp only [Nat.add_zero] at c0
      go_wp2_with fail
      refine (KA.out wr BB.out).mono ?_
      rintro e w2 ⟨rfl, hb2⟩
      have BB2 := hideP (BB.out.trans (hb2.mono BB.out.size))
      have d1 := CC.out w2 BB2.out 1 _ rfl
      clear hb2 c0
      go_wp2_with fail
      refine (KB.out w2 BB2.out).mono ?_
      rintro e w3 ⟨rfl, hb3⟩
      have BB3 := hideP (BB2.out.trans (hb3.mono BB2.out.size))
      clear hb3 d1 KA KB CC
      go_wp2_with fail
      go_roundw
      case rel => exact ⟨j + 1, by omega, by go_num, by rw [HK2.out], BB3⟩
      case measure => simp [intOf]; omega
    · obtain rfl : j = n := by omega
      have e : Pl.mkG m (c.take j) = Pl.mkG m c := Pl.mk_whole Pl.mkGv (c := c) (i := j) (by rw [HN.out]; exact Nat.le_refl _) m
      rw [e]
      clear H0 HLE e
      go_wp2_with fail
      go_ret
      exact ⟨rfl, BB.out⟩
set_option maxHeartbeats 4000000 in
/-- laws.heldStmtS -/
theorem heldStmtS_any (v : Value) (m : Nat) (c : List Pl.Tv) (F : List Nat) (w : World) (h1 : 1 ≤ m) (hgl : ∀ t ∈ c, t.gs.length ≤ 16777216) (hb : (Pl.mkP m c).2 ≤ 1099511627776) (h : HdP w v (Pl.mkP m c).1 F) :
    Calls Tryd.prog 8 #[v, .int .i64 (m : Int)] w fun e w' => e = .returned (.int .i64 ((Pl.mkP m c).2 : Nat)) ∧ Below w.heap.size w w' := by
  obtain ⟨ao, cap, rfl⟩ := h.form
  have hcl : (Pl.mkP m c).1.length = c.length := Pl.mkL_len _ _ _
  rw [hcl] at h ⊢
  clear hcl
  have hlc : c.length ≤ 1099511627776 := by have : m + c.length ≤ (Pl.mkP m c).2 := Pl.mkL_len2 Pl.mkTv_gt c m; omega
  generalize hn : c.length = n at h hlc ⊢
  have HN := hideP hn
  have HLE : Hid (∀ i (h : i < c.length), (Pl.mkTv (Pl.mkP m (c.take i)).2 c[i]).2 ≤ 1099511627776 ∧ c[i].gs.length ≤ 16777216) := fun i h => ⟨Nat.le_trans (Pl.mk_le Pl.mkTv_ge h m) hb, hgl _ (List.getElem_mem h)⟩
  have H0 : Hid (HdP w (.slice ao n cap) (Pl.mkP m c).1 F) := h
  clear h hn hb hgl
  go_enter Tryd.func8, Tryd.ntmps8
  go_wp2_with fail
  go_loopw [1, 5] (fun k i wr => ∃ j : Nat, j ≤ n ∧ i = .int .i64 j ∧ k = .int .i64 ((Pl.mkP m (c.take j)).2 : Nat) ∧ Hid (Below w.heap.size w wr)) (fun _ i _ => n - (intOf i).toNat)
  case atStart => exact ⟨0, Nat.zero_le _, rfl, rfl, Below.refl _ _⟩
  case round =>
    obtain ⟨j, hj, rfl, rfl, BB⟩ := hrel
    by_cases hlt : j < n
    · have hjn : j < c.length := by rw [HN.out]; exact hlt
      have hlt' : (j : Int) < (n : Int) := by omega
      obtain ⟨hle, hgl⟩ := HLE.out j hjn
      have hh := H0.out
      rw [show Pl.mkP m c = _ from Pl.mkL_at Pl.mkTv hjn m] at hh
      obtain ⟨g, cap', x, f, hv, hQ, hS, hg, hf, hfn, hfl, _⟩ := hh.focus Qt'.lives Qt'.len
      have hml : (Pl.mkP m (c.take j)).1.length = j := Pl.mk_tlen _ (by omega) m
      have hS' : Sd 4 w w g j f x := by
        have := hS
        rw [show (Pl.mkL Pl.mkTv m (c.take j)).1.length = j from hml] at this
        exact this
      have hao : ao = some ⟨g, 0, none⟩ := (Value.slice.inj hv).1
      subst hao
      have hT : Pl.mkP m (c.take (j + 1)) = ((Pl.mkP m (c.take j)).1 ++ [(Pl.mkTv (Pl.mkP m (c.take j)).2 c[j]).1], (Pl.mkTv (Pl.mkP m (c.take j)).2 c[j]).2) := Pl.mkL_take Pl.mkTv hjn m
      have hm1 : m ≤ (Pl.mkP m (c.take j)).2 := Pl.mk_tk Pl.mkTv_ge c j m
      have HT2 : Hid ((Pl.mkP m (c.take (j + 1))).2 = (Pl.mkTv (Pl.mkP m (c.take j)).2 c[j]).2) := by show _ = _; rw [hT]
      have hQ' : Qt' w x (Pl.mkTv (Pl.mkP m (c.take j)).2 c[j]).1 f := hQ
      clear hT hh H0 HLE hv hml hf hg hS hQ
      generalize Pl.mkP m (c.take j) = M at *
      generalize c[j] = s at *
      obtain ⟨M1, t⟩ := M
      simp only at hm1 HT2 hQ' hle
      obtain ⟨v1, v2, f1, f2, rfl, rfl, hA, hB⟩ := hQ'
      have hle2 : (Pl.mkG (Pl.mkS (t + 2) s.code).2 s.gs).2 ≤ 1099511627776 := hle
      have hge1 : t + 2 ≤ (Pl.mkS (t + 2) s.code).2 := Pl.mkL_ge Pl.mkSv_ge _ _
      have hge2 : (Pl.mkS (t + 2) s.code).2 ≤ (Pl.mkG (Pl.mkS (t + 2) s.code).2 s.gs).2 := Pl.mkL_ge Pl.mkGv_ge _ _
      have HK2 : Hid ((Pl.mkP m (c.take (j + 1))).2 = (Pl.mkG (Pl.mkS (t + 2) s.code).2 s.gs).2) := HT2
      have hA' : HdS w v1 (Pl.mkS (t + 2) s.code).1 f1 := hA
      have hB' : HdG w v2 (Pl.mkG (Pl.mkS (t + 2) s.code).2 s.gs).1 f2 := hB
      obtain ⟨a1, c1, rfl⟩ := hA'.form
      obtain ⟨a2, c2, rfl⟩ := hB'.form
      have e1 : (Pl.mkS (t + 2) s.code).1.length = s.code.length := Pl.mkL_len _ _ _
      have e2 : (Pl.mkG (Pl.mkS (t + 2) s.code).2 s.gs).1.length = s.gs.length := Pl.mkL_len _ _ _
      have CC : Hid (∀ W, Below w.heap.size w W → ∀ k u, [Value.int .i64 (t : Int), .string (Pl.mkX (t + 1)), .slice a1 s.code.length c1, .slice a2 s.gs.length c2][k]? = some u → W.cell? ⟨g, j * 4 + k, none⟩ = some u) := fun W hW k u hu => (hW.cell (p := ⟨g, j * 4 + k, none⟩) hS'.glt).trans (hS'.cur k u (by rw [e1, e2]; exact hu))
      rw [e1] at hA'
      rw [e2] at hB'
      have KA := hideP (fun (W : World) (hW : Below w.heap.size w W) => heldStepS_any (.slice a1 s.code.length c1) (t + 2) s.code f1 W (by omega) (by omega) (hA'.bel Qs'.lives (fun b hb => hfl b (by simp [hb])) hW))
      have KB := hideP (fun (W : World) (hW : Below w.heap.size w W) => heldGuardS_any (.slice a2 s.gs.length c2) (Pl.mkS (t + 2) s.code).2 s.gs f2 W (by omega) hgl hle2 (hB'.bel Qg'.lives (fun b hb => hfl b (by simp [hb])) hW))
      have K15 := hideP (fun w => markText_any (t + 1) w (by omega) (by omega))
      have q1 : (((t + 1 : Nat)) : Int) = (t : Int) + 1 := by omega
      have q2 : (((t + 2 : Nat)) : Int) = (t : Int) + 1 + 1 := by omega
      rw [q1] at K15
      rw [q2] at KA
      clear hA hB hA' hB' e1 e2 HT2 hle hS' q1 q2
      generalize Pl.mkS (t + 2) s.code = R1 at *
      obtain ⟨L1, r1⟩ := R1
      generalize Pl.mkG r1 s.gs = R2 at *
      obtain ⟨L2, r2⟩ := R2
      generalize s.code.length = n1 at *
      generalize s.gs.length = n2 at *
      simp only at KA KB hle2 hge1 hge2 HK2
      have hr1 : ¬ ((r1 : Int) < 0) := by omega
      have hr2 : ¬ ((r2 : Int) < 0) := by omega
      have c0 := CC.out wr BB.out 0 _ rfl
      simp only [Nat.add_zero] at c0
      have D : Hid (Below w.heap.size w wr.drew) := BB.out.drew
      go_wp2_with fail
      refine wp_region_held (S := fun W => Below w.heap.size w W) (by kernel_rfl) ?_
      change wpAnyH _ _ _ _ _ _ _ _ (World.drew _)
      refine wpAnyH_take (i := 0) (v := .slice (some ⟨g, 0, none⟩) n cap) rfl (by kernel_rfl) (by kernel_rfl) (by kernel_rfl) (fun _ _ _ h => h) (Or.inl ⟨by rfl, fun W hW => exec_move (.tmp 0) (.slice (some ⟨g, 0, none⟩) n cap) rfl (by kernel_rfl) W⟩) D.out ?_
      refine wpAnyH_take (i := 1) (v := .int .i64 j) rfl (by kernel_rfl) (by kernel_rfl) (by kernel_rfl) (fun _ _ _ h => h) (Or.inl ⟨by rfl, fun W hW => exec_move (.tmp 5) (.int .i64 j) rfl (by kernel_rfl) W⟩) D.out ?_
      refine wpAnyH_take (i := 2) (v := .pointer (some ⟨g, j * 4, none⟩)) rfl (by kernel_rfl) (by kernel_rfl) (by kernel_rfl) (fun _ _ _ h => h) (Or.inl ⟨by rfl, fun W hW => exec_idx22 (.tmp 21) (.tmp 22) g n cap j rfl (by kernel_rfl) (by kernel_rfl) hlt W⟩) D.out ?_
      refine wpAnyH_take (i := 3) (v := .pointer (some ⟨g, j * 4 + 1, none⟩)) rfl (by kernel_rfl) (by kernel_rfl) (by kernel_rfl) (fun _ _ _ h => h) (Or.inl ⟨by rfl, fun W hW => exec_f37_1 (.tmp 23) g (j * 4) rfl (by kernel_rfl) W⟩) D.out ?_
      refine wpAnyH_take (i := 4) (v := .string (Pl.mkX (t + 1))) rfl (by kernel_rfl) (by kernel_rfl) (by kernel_rfl) (fun _ _ _ h => h) (Or.inl ⟨by rfl, fun W hW => exec_load9 (.tmp 24) g (j * 4 + 1) ((Pl.mkX (t + 1))) W rfl (by kernel_rfl) (CC.out W hW 1 _ rfl)⟩) D.out ?_
      refine wpAnyH_take (i := 5) (v := .int .i64 ((t : Int) + 1)) rfl (by kernel_rfl) (by kernel_rfl) (by kernel_rfl) (fun _ _ _ h => h) (Or.inl ⟨by rfl, fun W hW => exec_move (.tmp 1) (.int .i64 ((t : Int) + 1)) rfl (by kernel_rfl) W⟩) D.out ?_
      refine step_call (i := 6) (by kernel_rfl) rfl rfl 15 _ (exec_call1 15 enter15 (.tmp 26) (.int .i64 ((t : Int) + 1)) _ rfl (by kernel_rfl) _) ?_
      refine (K15.out _).mono ?_
      rintro e w2 ⟨rfl, hb2⟩
      have BB2 := hideP (D.out.trans (hb2.mono D.out.size))
      refine ⟨_, rfl, BB2.out, ?_⟩
      refine step_val (i := 7) (by kernel_rfl) rfl rfl (.bool false) (exec_neq9 (.tmp 25) (.tmp 27) ((Pl.mkX (t + 1))) rfl (by kernel_rfl) (by kernel_rfl) _) BB2.out ?_
      refine wpAnyH_done (by kernel_rfl) ?_ _
      go_simp
      clear hb2 D
      have d2 := CC.out w2 BB2.out 2 _ rfl
      clear K15 c0
      go_wp2_with fail
      refine (KA.out w2 BB2.out).mono ?_
      rintro e w3 ⟨rfl, hb3⟩
      have BB3 := hideP (BB2.out.trans (hb3.mono BB2.out.size))
      have d3 := CC.out w3 BB3.out 3 _ rfl
      clear hb3 d2 BB2
      go_wp2_with fail
      refine (KB.out w3 BB3.out).mono ?_
      rintro e w4 ⟨rfl, hb4⟩
      have BB4 := hideP (BB3.out.trans (hb4.mono BB3.out.size))
      clear hb4 d3 KA KB CC BB3
      go_wp2_with fail
      go_roundw
      case rel => exact ⟨j + 1, by omega, by go_num, by rw [HK2.out], BB4⟩
      case measure => simp [intOf]; omega
    · obtain rfl : j = n := by omega
      have e : Pl.mkP m (c.take j) = Pl.mkP m c := Pl.mk_whole Pl.mkTv (c := c) (i := j) (by rw [HN.out]; exact Nat.le_refl _) m
      rw [e]
      clear H0 HLE e
      go_wp2_with fail
      go_ret
      exact ⟨rfl, BB.out⟩
end Go.Proofs.YtljkolffjjhgeaaDoor
