import Derived.Test.YtljkolffjjhgeaaGreatDoorMng
namespace Go.Proofs.YtljkolffjjhgeaaGreatDoor
open Go.RowKit
set_option linter.unusedVariables false
set_option maxRecDepth 100000
theorem eq130 (a b c d : Int) (w : World) : (Op.equalIn 10000 130 (.agg #[.int .i64 a, .int .i64 b, .int .i64 0, .string ⟨#[]⟩, .int .i64 c, .int .i64 d, .int .i64 0, .string ⟨#[]⟩]) (.agg #[.int .i64 0, .int .i64 0, .int .i64 0, .string ⟨#[]⟩, .int .i64 0, .int .i64 0, .int .i64 0, .string ⟨#[]⟩])).run Tryz.prog w = .ok (decide (a = 0) && decide (b = 0) && decide (c = 0) && decide (d = 0)) w := by
  have u3 := Tryz.underlying3
  have a3 := Tryz.isAgg3
  have z3 := Tryz.sizeOf3
  have u9 := Tryz.underlying9
  have a9 := Tryz.isAgg9
  have z9 := Tryz.sizeOf9
  have a78 := Tryz.isAgg78
  have z78 := Tryz.sizeOf78
  have hS : Tryz.prog.underlying 130 = some (.struct (Tryz.prog.fieldsOf 130)) := by kernel_rfl
  have hp : Tryz.prog.stoodInHeld 130 = false := by kernel_rfl
  have hS2 : Tryz.prog.underlying 78 = some (.struct (Tryz.prog.fieldsOf 78)) := by kernel_rfl
  have hp2 : Tryz.prog.stoodInHeld 78 = false := by kernel_rfl
  have e2 : ∀ (x y : Int) (w : World), (Op.equalIn 9999 78 (.agg #[.int .i64 x, .int .i64 y, .int .i64 0, .string ⟨#[]⟩]) (.agg #[.int .i64 0, .int .i64 0, .int .i64 0, .string ⟨#[]⟩])).run Tryz.prog w = .ok (decide (x = 0) && decide (y = 0)) w := by
    intro x y w
    rw [show (9999 : Nat) = 9998 + 1 from rfl, run_equalIn_agg w 9998 78 _ _ hS2 hp2]
    simp only [Program.fieldsOf, Tryz.underlying78]
    go_simp
    by_cases h1 : x = 0 <;> by_cases h2 : y = 0 <;> simp [h1, h2]
  rw [show (10000 : Nat) = 9999 + 1 from rfl, run_equalIn_agg w 9999 130 _ _ hS hp]
  simp only [Program.fieldsOf, Tryz.underlying130]
  clear hS2
  go_simp
  by_cases h1 : a = 0 <;> by_cases h2 : b = 0 <;> by_cases h3 : c = 0 <;> by_cases h4 : d = 0 <;> simp [h1, h2, h3, h4]
namespace Pl
theorem rowOf_any (l : List UInt8) : (rowOf l).isSome = mgs.any (fun m => decide (m.t = l)) := by
  unfold rowOf
  rw [Bool.eq_iff_iff, List.find?_isSome, List.any_eq_true]
theorem row_nz {l : List UInt8} {m : Mg} (h : rowOf l = some m) : (decide (m.ok = 0) && decide (m.ow = 0) && decide (m.tk = 0) && decide (m.tw = 0)) = false := by
  have hm := List.mem_of_find?_eq_some h
  have : ∀ m ∈ mgs, (decide (m.ok = 0) && decide (m.ow = 0) && decide (m.tk = 0) && decide (m.tw = 0)) = false := by decide
  exact this m hm
end Pl
/-- impl.hasMeaning -/
theorem hasMeaning_any (s : ByteArray) (mb mo cp : Nat) (w : World) (hm : Mt w mb mo cp) :
    Calls Tryz.prog 64 #[.string s] w fun e w' => e = .returned (.bool (Pl.mgs.any (fun m => decide (m.t = s.data.toList)))) ∧ Below w.heap.size w w' := by
  have K := hideP (usesOf_any s mb mo cp w hm)
  rw [← Pl.rowOf_any]
  cases h : Pl.rowOf s.data.toList with
  | none =>
    rw [usV_none h] at K
    have heq := eq130 0 0 0 0
    clear h hm
    go_enter Tryz.func64, Tryz.ntmps64
    go_wp2_with (go_at_call 77; refine K.out.mono ?_; rintro e w' ⟨rfl, hb⟩)
    go_ret
    exact ⟨rfl, hb⟩
  | some m =>
    rw [usV_some h] at K
    have heq := eq130 m.ok m.ow m.tk m.tw
    rw [Pl.row_nz h] at heq
    clear h hm
    go_enter Tryz.func64, Tryz.ntmps64
    go_wp2_with (go_at_call 77; refine K.out.mono ?_; rintro e w' ⟨rfl, hb⟩)
    go_ret
    exact ⟨rfl, hb⟩
set_option maxHeartbeats 4000000 in
/-- impl.wordKind -/
theorem wordKind_any (s : ByteArray) (mb mo cp : Nat) (w : World) (hm : Mt w mb mo cp) (hl : s.size ≤ 9223372036854775807) :
    Calls Tryz.prog 45 #[.string s] w fun e w' => e = .returned (.int .i64 (Pl.wk s.data.toList)) ∧ Below w.heap.size w w' := by
  by_cases h0 : s.size = 0
  · have hq : (s.toList == []) = true := by rw [ba_nil]; exact decide_eq_true h0
    have HR : Hid (Pl.wk s.data.toList = 0) := by
      show _ = _
      rw [Pl.sz_eq] at h0
      rw [List.eq_nil_of_length_eq_zero h0]
      rfl
    clear h0
    generalize Pl.wk s.data.toList = r at *
    go_enter Tryz.func45, Tryz.ntmps45
    go_wp2
    go_ret
    exact ⟨ret_int HR.out.symm, Below.refl _ _⟩
  have hq : (s.toList == []) = false := by rw [ba_nil]; exact decide_eq_false h0
  have hix : ∀ w, (Instr.index 9 (.string s) (.int .i64 0)).run Tryz.prog w = .ok (.int .u8 (Pl.bt s 0)) w := idx_str s 0 (by omega)
  have HW := hideP (Pl.wk_I s h0)
  have K : Hid (∀ w, Calls Tryz.prog 61 #[.int .u8 (Pl.bt s 0)] w fun e w' => e = .returned (.bool (Pl.lttI (Pl.bt s 0))) ∧ w' = w) := isLetter_any _
  have K2 : Hid (∀ w, Calls Tryz.prog 62 #[.string s, .int .i64 0] w fun e w' => e = .returned (.int .i64 (Pl.stre s (s.size - 1) 1 : Nat)) ∧ w' = w) := fun w => stretchEnd_any s 0 w (by omega) hl
  have K3 : Hid (∀ w, Calls Tryz.prog 63 #[.int .u8 (Pl.bt s 0)] w fun e w' => e = .returned (.bool (decide (65 ≤ Pl.bt s 0 ∧ Pl.bt s 0 ≤ 90))) ∧ w' = w) := isCapital_any _
  have K4 := hideP (hasMeaning_any s mb mo cp w hm)
  clear hm
  generalize Pl.wk s.data.toList = r at *
  generalize Pl.mgs.any (fun m => decide (m.t = s.data.toList)) = q at *
  generalize Pl.stre s (s.size - 1) 1 = z at *
  generalize hcx : decide (65 ≤ Pl.bt s 0 ∧ Pl.bt s 0 ≤ 90) = cx at *
  have HCX := hideP hcx
  clear hcx
  generalize Pl.bt s 0 = x at *
  generalize hlx : Pl.lttI x = lx at *
  clear hlx
  have Hs : Hid (∀ n, s.size = n → s.size = n) := fun _ h => h
  generalize hn : s.size = n at *
  by_cases g1 : (20 : Int) < n
  · have HR := hideP (show r = 0 by rw [HW.out, if_pos (by omega)])
    go_enter Tryz.func45, Tryz.ntmps45
    go_wp2
    go_ret
    exact ⟨ret_int HR.out.symm, Below.refl _ _⟩
  have HW1 := hideP (show r = if lx = false then 0 else if z < n then 0 else if s = ⟨#[115, 101, 108, 102]⟩ ∨ (65 ≤ x ∧ x ≤ 90) then 3 else if q = true then 4 else 2 by rw [HW.out, if_neg (by omega)])
  clear HW
  cases lx
  · have HR := hideP (show r = 0 by rw [HW1.out, if_pos rfl])
    go_enter Tryz.func45, Tryz.ntmps45
    go_wp2_with (first | (go_at_call 61; refine (K.out _).mono ?_; rintro e w' ⟨rfl, rfl⟩))
    go_ret
    exact ⟨ret_int HR.out.symm, Below.refl _ _⟩
  have HW2 := hideP (show r = if z < n then 0 else if s = ⟨#[115, 101, 108, 102]⟩ ∨ (65 ≤ x ∧ x ≤ 90) then 3 else if q = true then 4 else 2 by rw [HW1.out, if_neg (by decide)])
  clear HW1
  by_cases g2 : (z : Int) < n
  · have HR := hideP (show r = 0 by rw [HW2.out, if_pos (by omega)])
    go_enter Tryz.func45, Tryz.ntmps45
    go_wp2_with (first | (go_at_call 61; refine (K.out _).mono ?_; rintro e w' ⟨rfl, rfl⟩) | (go_at_call 62; refine (K2.out _).mono ?_; rintro e w' ⟨rfl, rfl⟩))
    go_ret
    exact ⟨ret_int HR.out.symm, Below.refl _ _⟩
  have HW3 := hideP (show r = if s = ⟨#[115, 101, 108, 102]⟩ ∨ (65 ≤ x ∧ x ≤ 90) then 3 else if q = true then 4 else 2 by rw [HW2.out, if_neg (by omega)])
  clear HW2
  by_cases g3 : s = ⟨#[115, 101, 108, 102]⟩
  · have HR := hideP (show r = 3 by rw [HW3.out, if_pos (.inl g3)])
    have hqs : (s.toList == [115, 101, 108, 102]) = true := by rw [← self_list, ba_eq]; exact decide_eq_true g3
    clear g3
    go_enter Tryz.func45, Tryz.ntmps45
    go_wp2_with (first | (go_at_call 61; refine (K.out _).mono ?_; rintro e w' ⟨rfl, rfl⟩) | (go_at_call 62; refine (K2.out _).mono ?_; rintro e w' ⟨rfl, rfl⟩))
    go_ret
    exact ⟨ret_int HR.out.symm, Below.refl _ _⟩
  have hqs : (s.toList == [115, 101, 108, 102]) = false := by rw [← self_list, ba_eq]; exact decide_eq_false g3
  cases cx
  · have hnc := of_decide_eq_false HCX.out
    have HW4 := hideP (show r = if q = true then 4 else 2 by rw [HW3.out, if_neg (by rintro (h | h); exact g3 h; exact hnc h)])
    clear g3 hnc HW3 HCX
    cases q
    · have HR := hideP (show r = 2 by rw [HW4.out]; rfl)
      go_enter Tryz.func45, Tryz.ntmps45
      go_wp2_with (first | (go_at_call 61; refine (K.out _).mono ?_; rintro e w' ⟨rfl, rfl⟩) | (go_at_call 62; refine (K2.out _).mono ?_; rintro e w' ⟨rfl, rfl⟩) | (go_at_call 63; refine (K3.out _).mono ?_; rintro e w' ⟨rfl, rfl⟩) | (go_at_call 64; refine K4.out.mono ?_; rintro e w' ⟨rfl, hb⟩))
      go_ret
      exact ⟨ret_int HR.out.symm, hb⟩
    · have HR := hideP (show r = 4 by rw [HW4.out]; rfl)
      go_enter Tryz.func45, Tryz.ntmps45
      go_wp2_with (first | (go_at_call 61; refine (K.out _).mono ?_; rintro e w' ⟨rfl, rfl⟩) | (go_at_call 62; refine (K2.out _).mono ?_; rintro e w' ⟨rfl, rfl⟩) | (go_at_call 63; refine (K3.out _).mono ?_; rintro e w' ⟨rfl, rfl⟩) | (go_at_call 64; refine K4.out.mono ?_; rintro e w' ⟨rfl, hb⟩))
      go_ret
      exact ⟨ret_int HR.out.symm, hb⟩
  · have hc := of_decide_eq_true HCX.out
    have HR := hideP (show r = 3 by rw [HW3.out, if_pos (.inr hc)])
    clear g3 hc HCX HW3
    go_enter Tryz.func45, Tryz.ntmps45
    go_wp2_with (first | (go_at_call 61; refine (K.out _).mono ?_; rintro e w' ⟨rfl, rfl⟩) | (go_at_call 62; refine (K2.out _).mono ?_; rintro e w' ⟨rfl, rfl⟩) | (go_at_call 63; refine (K3.out _).mono ?_; rintro e w' ⟨rfl, rfl⟩))
    go_ret
    exact ⟨ret_int HR.out.symm, Below.refl _ _⟩
namespace Pl
def hitB (f : Fnv) (m : Mg) : Bool := decide (f = m.one) || decide (f = m.two)
theorem sgn_hit {f : Fnv} {k : Nat} {m : Mg} (hk : mgs[k]? = some m) (hb : ∀ x ∈ mgs.take k, hitB f x = false) (hm : hitB f m = true) : sgn f = m.t := by
  unfold sgn
  have hlt := (List.getElem?_eq_some_iff.1 hk).1
  have e : mgs = mgs.take k ++ m :: mgs.drop (k + 1) := by
    have := (List.take_append_drop k mgs).symm
    rw [List.drop_eq_getElem_cons hlt] at this
    rw [(List.getElem?_eq_some_iff.1 hk).2] at this
    exact this
  have : mgs.find? (fun m => decide (f = m.one) || decide (f = m.two)) = some m := by
    rw [e, List.find?_append]
    have h0 : (mgs.take k).find? (fun m => decide (f = m.one) || decide (f = m.two)) = none := by
      rw [List.find?_eq_none]
      intro x hx
      have := hb x hx
      unfold hitB at this
      rw [this]; decide
    rw [h0]
    unfold hitB at hm
    simp [hm]
  rw [this]
theorem sgn_miss {f : Fnv} (hb : ∀ x ∈ mgs.take 25, hitB f x = false) : sgn f = [] := by
  have h0 : mgs.find? (fun m => decide (f = m.one) || decide (f = m.two)) = none := by
    rw [List.find?_eq_none]
    intro x hx
    have : mgs.take 25 = mgs := rfl
    rw [this] at hb
    have := hb x hx
    unfold hitB at this
    rw [this]; decide
  unfold sgn
  rw [h0]
theorem hit_next {f : Fnv} {k : Nat} {m : Mg} (hk : mgs[k]? = some m) (hb : ∀ x ∈ mgs.take k, hitB f x = false) (hm : hitB f m = false) : ∀ x ∈ mgs.take (k + 1), hitB f x = false := by
  intro x hx
  rw [List.take_add_one, hk] at hx
  rcases List.mem_append.1 hx with h | h
  · exact hb x h
  · have : x = m := by simpa using h
    rw [this]; exact hm
theorem one_iff (f : Fnv) (m : Mg) : decide (f = m.one) = (decide (f.k = m.ok) && decide (f.a = m.ow) && decide (f.b = 0) && decide (ba f.nm = ⟨#[]⟩)) := by
  obtain ⟨k, a, b, nm⟩ := f
  rw [Bool.eq_iff_iff]
  have : ba nm = ⟨#[]⟩ ↔ nm = [] := by rw [ba_iff]; exact Iff.rfl
  simp only [Mg.one, Fnv.mk.injEq, decide_eq_true_eq, Bool.and_eq_true, this]
  exact ⟨fun ⟨a, b, c, d⟩ => ⟨⟨⟨a, b⟩, c⟩, d⟩, fun ⟨⟨⟨a, b⟩, c⟩, d⟩ => ⟨a, b, c, d⟩⟩
theorem two_iff (f : Fnv) (m : Mg) : decide (f = m.two) = (decide (f.k = m.tk) && decide (f.a = m.tw) && decide (f.b = 0) && decide (ba f.nm = ⟨#[]⟩)) := by
  obtain ⟨k, a, b, nm⟩ := f
  rw [Bool.eq_iff_iff]
  have : ba nm = ⟨#[]⟩ ↔ nm = [] := by rw [ba_iff]; exact Iff.rfl
  simp only [Mg.two, Fnv.mk.injEq, decide_eq_true_eq, Bool.and_eq_true, this]
  exact ⟨fun ⟨a, b, c, d⟩ => ⟨⟨⟨a, b⟩, c⟩, d⟩, fun ⟨⟨⟨a, b⟩, c⟩, d⟩ => ⟨a, b, c, d⟩⟩
end Pl
set_option maxHeartbeats 4000000 in
/-- impl.signOf -/
theorem signOf_any (f : Pl.Fnv) (mb mo cp : Nat) (w : World) (hm : Mt w mb mo cp) :
    Calls Tryz.prog 85 #[.agg #[.int .i64 f.k, .int .i64 f.a, .int .i64 f.b, .string (Pl.ba f.nm)]] w fun e w' => e = .returned (.string (Pl.ba (Pl.sgn f))) ∧ Below w.heap.size w w' := by
  obtain ⟨h1, h2, h3, h4, h5⟩ := hm
  have HT := hideP h4
  clear h4 h5
  have HSH := fun k m => @Pl.sgn_hit f k m
  have HSM := @Pl.sgn_miss f
  have HNX := fun k m => @Pl.hit_next f k m
  have HE1 : Hid (∀ (m : Pl.Mg) (w : World), (Op.equalIn 10000 78 (.agg #[.int .i64 f.k, .int .i64 f.a, .int .i64 f.b, .string (Pl.ba f.nm)]) (.agg #[.int .i64 m.ok, .int .i64 m.ow, .int .i64 0, .string ⟨#[]⟩])).run Tryz.prog w = .ok (decide (f = m.one)) w) := fun m w => by rw [Pl.one_iff]; exact eq78 _ _ _ _ _ _ _ _ w
  have HE2 : Hid (∀ (m : Pl.Mg) (w : World), (Op.equalIn 10000 78 (.agg #[.int .i64 f.k, .int .i64 f.a, .int .i64 f.b, .string (Pl.ba f.nm)]) (.agg #[.int .i64 m.tk, .int .i64 m.tw, .int .i64 0, .string ⟨#[]⟩])).run Tryz.prog w = .ok (decide (f = m.two)) w) := fun m w => by rw [Pl.two_iff]; exact eq78 _ _ _ _ _ _ _ _ w
  have HSH := hideP HSH
  have HSM := hideP HSM
  have HNX := hideP HNX
  generalize Pl.sgn f = sg at *
  generalize Pl.ba f.nm = nm at *
  generalize f.k = fk at *
  generalize f.a = fa at *
  generalize f.b = fb at *
  obtain ⟨W0, hW0⟩ : ∃ W0, w.alloc (.cells #[.int .i64 fk, .int .i64 fa, .int .i64 fb, .string nm] 78) = W0 := ⟨_, rfl⟩
  have HS0 : Hid (W0.heap.size = w.heap.size + 1) := by show _ = _; rw [← hW0]; simp
  have HB0 : Hid (Below w.heap.size w W0) := by show Below _ _ _; rw [← hW0]; exact (Below.refl _ _).alloc (Nat.le_refl _) _
  have HK0 : Hid (W0.heap[w.heap.size]? = some (.cells #[.int .i64 fk, .int .i64 fa, .int .i64 fb, .string nm] 78)) := by show _ = _; rw [← hW0]; exact heap_alloc_new w _
  have g0 : ∀ o, (w.alloc o).cell? ⟨0, 0, none⟩ = some (.slice (some ⟨mb, mo, none⟩) 25 cp) := fun o => (((Below.refl w.heap.size w).alloc (Nat.le_refl _) o).cell (p := ⟨0, 0, none⟩) (show 0 < w.heap.size by omega)).trans h1
  have HW0 := hideP hW0
  have HR0 : Hid (Below (w.heap.size + 1) W0 W0) := Below.refl _ _
  clear hW0
  have HC : Hid (∀ k m wr, Pl.mgs[k]? = some m → Below (w.heap.size + 1) W0 wr → wr.cell? ⟨mb, mo + k * 5, none⟩ = some (.string (Pl.ba m.t)) ∧ wr.cell? ⟨mb, mo + k * 5 + 1, none⟩ = some (.int .i64 m.ok) ∧ wr.cell? ⟨mb, mo + k * 5 + 2, none⟩ = some (.int .i64 m.ow) ∧ wr.cell? ⟨mb, mo + k * 5 + 3, none⟩ = some (.int .i64 m.tk) ∧ wr.cell? ⟨mb, mo + k * 5 + 4, none⟩ = some (.int .i64 m.tw)) := fun k m wr hk hb => by
    obtain ⟨a, b, c, d, e⟩ := HT.out k m hk
    have hb' : Below w.heap.size w wr := HB0.out.trans (hb.mono (Nat.le_succ _))
    exact ⟨(hb'.cell (p := ⟨mb, mo + k * 5, none⟩) h2).trans a, (hb'.cell (p := ⟨mb, mo + k * 5 + 1, none⟩) h2).trans b, (hb'.cell (p := ⟨mb, mo + k * 5 + 2, none⟩) h2).trans c, (hb'.cell (p := ⟨mb, mo + k * 5 + 3, none⟩) h2).trans d, (hb'.cell (p := ⟨mb, mo + k * 5 + 4, none⟩) h2).trans e⟩
  clear HT h1 h2 h3
  go_enter Tryz.func85, Tryz.ntmps85
  go_wp2_with fail
  rw [HW0.out]
  go_loopw [8] (fun v wr => ∃ k : Nat, k ≤ 25 ∧ v = .int .i64 k ∧ Hid (∀ x ∈ Pl.mgs.take k, Pl.hitB f x = false) ∧ Hid (Below (w.heap.size + 1) W0 wr)) (fun v _ => 25 - (intOf v).toNat)
  case atStart => exact ⟨0, by omega, rfl, fun x hx => by simp at hx, HR0⟩
  case round =>
    obtain ⟨k, hk, rfl, hno, hbx⟩ := hrel
    have hsz : w.heap.size + 1 ≤ wr.heap.size := by have := hbx.out.size; have := HS0.out; omega
    by_cases hlt : k < 25
    · obtain ⟨m, hm⟩ := Pl.mgs_some k hlt
      obtain ⟨c0, c1, c2, c3, c4⟩ := HC.out k m wr hm hbx.out
      have K := hideP (uses_any (Pl.ba m.t) m.ok m.ow m.tk m.tw)
      have hq1 := HE1.out m
      have hq2 := HE2.out m
      have HIT := hideP (HSH.out k m hm hno.out)
      have MISS := hideP (HNX.out k m hm hno.out)
      have HDF : Hid (Pl.hitB f m = (decide (f = m.one) || decide (f = m.two))) := rfl
      have HBX : Hid (∀ o w', Below (wr.alloc o).heap.size (wr.alloc o) w' → w'.heap[w.heap.size]? = some (.cells #[.int .i64 fk, .int .i64 fa, .int .i64 fb, .string nm] 78) ∧ Below (w.heap.size + 1) W0 w' ∧ wr.heap.size < w'.heap.size ∧ ∀ j v, (wr.alloc o).cell? ⟨wr.heap.size, j, none⟩ = some v → w'.cell? ⟨wr.heap.size, j, none⟩ = some v) := fun o w' hb => by
        have hb2 : Below (w.heap.size + 1) W0 w' := (hbx.out.alloc hsz o).trans (hb.mono (by simp; omega))
        exact ⟨(hb2.block w.heap.size (Nat.lt_succ_self _)).trans HK0.out, hb2, Nat.lt_of_lt_of_le (by simp) hb.size, fun j v h => (hb.cell (p := ⟨wr.heap.size, j, none⟩) (by simp)).trans h⟩
      clear HC HE1 HE2 HSH HNX HSM hm
      generalize hmt : Pl.ba m.t = t at *
      have HMT := hideP hmt
      clear hmt
      generalize decide (f = m.one) = d1 at *
      generalize decide (f = m.two) = d2 at *
      go_wp2_with fail
      refine (K.out _).mono ?_
      rintro e w2 ⟨rfl, hb2⟩
      obtain ⟨hblk, hbw, hlt2, hcc⟩ := HBX.out _ _ hb2
      have y0 := hcc 0 _ (by simp [go_sem]; rfl)
      have z0 := cell_blk hblk 0
      have z1 := cell_blk hblk 1
      have z2 := cell_blk hblk 2
      have z3 := cell_blk hblk 3
      simp at z0 z1 z2 z3
      have HBW := hideP hbw
      have y0' : ∀ o, (w2.alloc o).cell? ⟨wr.heap.size, 0, none⟩ = some (.string t) := fun o => (((Below.refl w2.heap.size w2).alloc (Nat.le_refl _) o).cell (p := ⟨wr.heap.size, 0, none⟩) hlt2).trans y0
      have hws : w.heap.size < w2.heap.size := by omega
      have AL : Hid (∀ o j v, w2.cell? ⟨w.heap.size, j, none⟩ = some v → (w2.alloc o).cell? ⟨w.heap.size, j, none⟩ = some v) := fun o j v h => (((Below.refl w2.heap.size w2).alloc (Nat.le_refl _) o).cell (p := ⟨w.heap.size, j, none⟩) hws).trans h
      have z0' := fun o => AL.out o 0 _ z0
      have z1' := fun o => AL.out o 1 _ z1
      have z2' := fun o => AL.out o 2 _ z2
      have z3' := fun o => AL.out o 3 _ z3
      have HBA : Hid (∀ o, Below (w.heap.size + 1) W0 (w2.alloc o)) := fun o => HBW.out.alloc (by omega) o
      clear hb2 hblk hbw hcc y0 z0 z1 z2 z3
      cases d1
      · cases d2
        · have HN := hideP (MISS.out (by rw [HDF.out]; rfl))
          go_wp2_with fail
          go_roundw
          case rel => exact ⟨k + 1, by omega, by go_num, HN.out, HBA.out _⟩
          case measure => simp [intOf]; omega
        · have HN := hideP (HIT.out (by rw [HDF.out]; rfl))
          go_wp2_with fail
          go_ret
          exact ⟨ret_str (by rw [HN.out, HMT.out]), HB0.out.trans ((HBA.out _).mono (Nat.le_succ _))⟩
      · have HN := hideP (HIT.out (by rw [HDF.out]; rfl))
        go_wp2_with fail
        go_ret
        exact ⟨ret_str (by rw [HN.out, HMT.out]), HB0.out.trans ((HBA.out _).mono (Nat.le_succ _))⟩
    · obtain rfl : k = 25 := by omega
      have HN := hideP (HSM.out hno.out)
      have HBW := hideP (HB0.out.trans (hbx.out.mono (Nat.le_succ _)))
      clear HC HE1 HE2 HSH HNX HSM hno
      go_wp2_with fail
      go_ret
      exact ⟨ret_str (by rw [HN.out]; rfl), HBW.out⟩
/-- impl.operationSign -/
theorem operationSign_any (n : Int) (mb mo cp : Nat) (w : World) (hm : Mt w mb mo cp) :
    Calls Tryz.prog 84 #[.int .i64 n] w fun e w' => e = .returned (.string (Pl.ba (Pl.osg n))) ∧ Below w.heap.size w w' := by
  have K : Hid (Calls Tryz.prog 85 #[.agg #[.int .i64 5, .int .i64 n, .int .i64 0, .string ⟨#[]⟩]] w fun e w' => e = .returned (.string (Pl.ba (Pl.osg n))) ∧ Below w.heap.size w w') := signOf_any ⟨5, n, 0, []⟩ mb mo cp w hm
  clear hm
  generalize Pl.ba (Pl.osg n) = r at *
  go_enter Tryz.func84, Tryz.ntmps84
  go_wp2_with (go_at_call 85; refine K.out.mono ?_; rintro e w' ⟨rfl, hb⟩)
  go_ret
  exact ⟨rfl, hb⟩
end Go.Proofs.YtljkolffjjhgeaaGreatDoor
