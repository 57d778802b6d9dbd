import Derived.Test.YtljkolffjjhgeaaGreatDoorNtc
import Derived.Test.YtljkolffjjhgeaaGreatDoorNtd
import Derived.Test.YtljkolffjjhgeaaGreatDoorSpd
import Derived.Test.YtljkolffjjhgeaaGreatDoorPrP
namespace Go.Proofs.YtljkolffjjhgeaaGreatDoor
open Go.RowKit
set_option linter.unusedVariables false
set_option maxRecDepth 100000
set_option maxHeartbeats 4000000 in
theorem nodeTokens_two (s : Pl.Sv) (l r : Pl.Nd Pl.Sv) (vl vr : Value) (mb mo cp : Nat) (w0 w : World) (he : Ev w0 mb mo cp) (hn : Nsk l vl) (hi : ∃ T p, vr = .iface T p) (hcl : TkC w0 l vl) (hcr : TkC w0 r vr) (base : Nat) (v0 : Value) (l0 : List (List UInt8)) (h : Tk w0 w base v0 l0) (hl : l0.length + (opT l ++ (Pl.ftk s.fn ++ Pl.toks (Pl.fa Pl.nt) Pl.ff r)).length ≤ 100000000) :
    Calls Tryz.prog 60 #[v0, .iface 128 (.agg #[vl, .int .i64 s.fn.k, .int .i64 s.fn.a, .int .i64 s.fn.b, .string (Pl.ba s.fn.nm), vr])] w (TokPost base l0 (opT l ++ (Pl.ftk s.fn ++ Pl.toks (Pl.fa Pl.nt) Pl.ff r)) w) := by
  obtain ⟨T, p, rfl⟩ := hi
  have hnl : ∃ T p, vl = .iface T p := by obtain ⟨T, p, _, _, h, _⟩ := hn; exact ⟨T, p, h⟩
  have HT := hideP h
  have HC : Hid (∀ (w : World) (base : Nat) (v0 : Value) (l0 : List (List UInt8)), Tk w0 w base v0 l0 → l0.length + (Pl.toks (Pl.fa Pl.nt) Pl.ff r).length ≤ 100000000 → Calls Tryz.prog 60 #[v0, .iface T p] w (TokPost base l0 (Pl.toks (Pl.fa Pl.nt) Pl.ff r) w)) := hcr
  rw [List.length_append, List.length_append] at hl
  have KO : Hid (∀ o, Calls Tryz.prog 75 #[v0, vl] (w.alloc o) (TokPost base l0 (opT l) (w.alloc o))) := fun o => operandTokens_any w0 l vl hn hcl (w.alloc o) base v0 l0 (HT.out.keep ((Below.refl _ _).alloc (Nat.le_refl _) o)) (by omega)
  obtain ⟨Tl, pl, rfl⟩ := hnl
  obtain ⟨xo, yo, rfl, hyo⟩ := owns_form h.ow
  have t1 := ta128_121 (.agg #[.iface Tl pl, .int .i64 s.fn.k, .int .i64 s.fn.a, .int .i64 s.fn.b, .string (Pl.ba s.fn.nm), .iface T p])
  have t2 := ta128_123 (.agg #[.iface Tl pl, .int .i64 s.fn.k, .int .i64 s.fn.a, .int .i64 s.fn.b, .string (Pl.ba s.fn.nm), .iface T p])
  have t3 := ta128_125 (.agg #[.iface Tl pl, .int .i64 s.fn.k, .int .i64 s.fn.a, .int .i64 s.fn.b, .string (Pl.ba s.fn.nm), .iface T p])
  have t4 := ta128_128 (.agg #[.iface Tl pl, .int .i64 s.fn.k, .int .i64 s.fn.a, .int .i64 s.fn.b, .string (Pl.ba s.fn.nm), .iface T p])
  have HB : Hid (∀ o, Below w.heap.size w (w.alloc o)) := fun o => (Below.refl _ _).alloc (Nat.le_refl _) _
  have HK : Hid (∀ o, (w.alloc o).heap[w.heap.size]? = some o) := fun o => heap_alloc_new w o
  have KF : Hid (∀ w', Below w0.heap.size w0 w' → Calls Tryz.prog 74 #[.agg #[.int .i64 s.fn.k, .int .i64 s.fn.a, .int .i64 s.fn.b, .string (Pl.ba s.fn.nm)]] w' (FnkPost (Pl.ftk s.fn) w')) := fun w' h => fnTokens_any s.fn mb mo cp w' (he.keep h).mt
  have L1 : Hid ((l0 ++ opT l).length + (Pl.ftk s.fn).length ≤ 4000000000 ∧ (l0 ++ opT l).length ≤ 100000000) := by rw [List.length_append]; exact ⟨by omega, by omega⟩
  have L2 : Hid (((l0 ++ opT l) ++ Pl.ftk s.fn).length + (Pl.toks (Pl.fa Pl.nt) Pl.ff r).length ≤ 100000000 ∧ ((l0 ++ opT l) ++ Pl.ftk s.fn).length ≤ 100000000) := by rw [List.length_append, List.length_append]; exact ⟨by omega, by omega⟩
  have HEND : Hid (∀ w2 e w', Below base w w2 → Ok9 w w2 → TokPost base ((l0 ++ opT l) ++ Pl.ftk s.fn) (Pl.toks (Pl.fa Pl.nt) Pl.ff r) w2 e w' → TokPost base l0 (opT l ++ (Pl.ftk s.fn ++ Pl.toks (Pl.fa Pl.nt) Pl.ff r)) w e w') := fun w2 e w' h1 h2 h3 => by
    rw [List.append_assoc] at h3
    have := h3.after h1 h2
    rw [List.append_assoc] at this
    exact this
  clear he hcl hcr hl h hn
  generalize Pl.toks (Pl.fa Pl.nt) Pl.ff r = L at *
  generalize opT l = OL at *
  generalize hF : Pl.ftk s.fn = F at *
  clear hF
  generalize Pl.ba s.fn.nm = fnm at *
  generalize s.fn.k = fk at *
  generalize s.fn.a = fa at *
  generalize s.fn.b = fb at *
  go_enter Tryz.func60, Tryz.ntmps60
  go_wp2_with fail
  refine (KO.out _).mono ?_
  rintro e w1 ⟨v1, rfl, o1, b1, q1⟩
  have B1 : Hid (Below base w w1) := ((HB.out _).mono HT.out.b1).trans b1
  have Q1 : Hid (Ok9 w w1) := (Ok9.of_below (HB.out _)).trans q1
  have HBLK := hideP (q1.2 _ _ _ _ (HK.out _) (by decide))
  have T1 := hideP (HT.out.next o1 B1.out L1.out.2)
  have c1 := cell_blk HBLK.out 1
  have c2 := cell_blk HBLK.out 2
  have c3 := cell_blk HBLK.out 3
  have c4 := cell_blk HBLK.out 4
  simp at c1 c2 c3 c4
  obtain ⟨x1, y1, eo, hy1⟩ := owns_form o1
  subst eo
  clear o1 b1 q1 KO
  generalize l0 ++ OL = M at *
  go_wp2_with fail
  refine (KF.out _ T1.out.hw).mono ?_
  rintro e w2 ⟨fb1, rfl, hcells, hb2, hf1, hf2⟩
  have Q2 := hideP (Ok9.of_below hb2)
  have HBK2 := hideP (Q2.out.2 _ _ _ _ HBLK.out (by decide))
  have T2 := hideP (T1.out.keep hb2)
  have B2 := hideP (B1.out.trans (hb2.mono T1.out.b1))
  have CE := hideP hcells
  have z2 := T2.out.b1
  clear hcells hb2 hf1 hf2 KF c1 c2 c3 c4 HBLK
  generalize hFL : F.length = fl at *
  have HFL := hideP hFL
  clear hFL
  go_wp2_with (at_builtin; refine wpList_append9 (base := base) w2 rfl (.tmp 55) (.tmp 58) rfl (.slice x1 M.length y1) (.slice (some ⟨fb1, 0, none⟩) fl fl) rfl rfl M F fl fb1 fl HFL.out.symm rfl T2.out.ow CE.out (by rw [HFL.out]; exact L1.out.1) z2 ?_)
  intro v3 w3 h1 h2 h3
  have o3 : w3.ownsRow base 9 1 v3 (M ++ F).length ((M ++ F).map tv) := by simpa using h1
  have B3 : Hid (Below base w w3) := B2.out.trans h2
  have Q3 : Hid (Ok9 w w3) := (Q1.out.trans Q2.out).trans h3
  have T3 := hideP (T2.out.next o3 h2 L2.out.2)
  have hcell := Ok9.cell h3 HBK2.out (by decide) 5
  simp at hcell
  obtain ⟨x3, y3, eo, hy3⟩ := owns_form o3
  subst eo
  have K := hideP (HC.out w3 base _ _ T3.out L2.out.1)
  have HE := hideP (fun e w' => HEND.out w3 e w' B3.out Q3.out)
  clear h1 h2 h3 o3 CE HBK2 HEND T3 L2
  generalize M ++ F = M2 at *
  go_wp2_with fail
  refine K.out.mono ?_
  rintro e w4 hp
  have H := hideP (HE.out _ _ hp)
  obtain ⟨v', rfl, _⟩ := hp
  go_wp2_with fail
  go_ret
  exact H.out
/-- impl.nodeTokens -/
theorem nodeTokens_any (mb mo cp : Nat) (w0 : World) (he : Ev w0 mb mo cp) : ∀ (t : Pl.Nd Pl.Sv) (v : Value), NdV w0.heap.size w0 t v → t.post.length ≤ 1048576 → (∀ s ∈ t.post, Pl.sok s = true) → TkC w0 t v := by
  intro t
  induction t with
  | «at» s =>
    intro v hv hl hs
    have hsok := hs s (by simp [Pl.Nd.post])
    rcases hv with ⟨hk, an, cn, rfl, hr⟩ | ⟨hk, rfl⟩
    · intro w base v0 l0 h _
      have e : Pl.toks (Pl.fa Pl.nt) Pl.ff (.at s) = s.nums.map Pl.nt := by simp [Pl.toks, Pl.fa, hk]
      rw [e]
      exact nodeTokens_nums s an cn mb mo cp w0 w he hr (Pl.sok_nums hsok hk).1 (Pl.sok_nums hsok hk).2 base v0 l0 h
    · intro w base v0 l0 h _
      have e : Pl.toks (Pl.fa Pl.nt) Pl.ff (.at s) = [s.nm] := by simp [Pl.toks, Pl.fa, hk]
      rw [e]
      exact nodeTokens_name s w0 w base v0 l0 h
  | one s r ih =>
    intro v hv hl hs
    obtain ⟨vr, rfl, hr⟩ := hv
    simp only [Pl.Nd.post, List.length_append, List.length_cons, List.length_nil] at hl
    intro w base v0 l0 h hb
    exact nodeTokens_one s r vr mb mo cp w0 w he hr.iface (ih vr hr (by omega) (fun x hx => hs x (by simp [Pl.Nd.post, hx]))) base v0 l0 h hb
  | two s l r il ir =>
    intro v hv hl hs
    obtain ⟨vl, vr, rfl, hvl, hvr⟩ := hv
    simp only [Pl.Nd.post, List.length_append, List.length_cons, List.length_nil] at hl
    intro w base v0 l0 h hb
    exact nodeTokens_two s l r vl vr mb mo cp w0 w he (hvl.nsk (by omega)) hvr.iface (il vl hvl (by omega) (fun x hx => hs x (by simp [Pl.Nd.post, hx]))) (ir vr hvr (by omega) (fun x hx => hs x (by simp [Pl.Nd.post, hx]))) base v0 l0 h hb
theorem NdV.up {B B' : Nat} {w : World} (hb : B ≤ B') : ∀ {t : Pl.Nd Pl.Sv} {v : Value}, NdV B w t v → NdV B' w t v := by
  intro t
  induction t with
  | «at» s =>
    intro v h
    rcases h with ⟨h1, an, cn, h2, h3⟩ | h
    · exact .inl ⟨h1, an, cn, h2, h3.up hb⟩
    · exact .inr h
  | one s r ih =>
    intro v h
    obtain ⟨vr, h1, h2⟩ := h
    exact ⟨vr, h1, ih h2⟩
  | two s l r il ir =>
    intro v h
    obtain ⟨vl, vr, h1, h2, h3⟩ := h
    exact ⟨vl, vr, h1, il h2, ir h3⟩
namespace Pl
theorem run_posts {c : List Sv} {t : Nd Sv} (h : run ar c [] = some [t]) : c = t.post ∧ t.Wf ar := by
  have h2 := (run_iff c t).1 h
  obtain ⟨hp, hw⟩ := par_post _ _ _ _ h2
  exact ⟨by simpa using congrArg List.reverse hp, hw⟩
theorem ftk_len (f : Fnv) : (ftk f).length ≤ 3 := by
  unfold ftk
  split
  · simp
  split
  · simp
  split
  · simp
  split
  · simp
  split <;> simp
theorem csz_app (a b : List Sv) : csz (a ++ b) = csz a + csz b := by
  unfold csz
  rw [List.map_append, List.sum_append, List.length_append]
  omega
theorem csz_one (s : Sv) : csz [s] = 1 + s.nums.length := by simp [csz]
theorem toks_len : ∀ t : Nd Sv, (toks (fa nt) ff t).length ≤ 5 * csz t.post := by
  intro t
  induction t with
  | «at» s =>
    simp only [toks, fa, Nd.post, csz_one]
    split
    · rw [List.length_map]; omega
    · simp; omega
  | one s r ih =>
    have := ftk_len s.fn
    simp only [toks, ff, Nd.post, csz_app, csz_one, List.length_append]
    omega
  | two s l r il ir =>
    have := ftk_len s.fn
    simp only [toks, ff, Nd.post, csz_app, csz_one, List.length_append]
    cases bareN l <;> simp only [List.length_append, List.length_cons, List.length_nil] <;> omega
theorem ftk_tok {f : Fnv} (h : f.k = 10 → wk f.nm = 3) : ∀ t ∈ ftk f, t.length ≤ 30 := by
  have s1 := sgn_len ⟨5, f.a, 0, []⟩
  have s2 := sgn_len ⟨5, f.b, 0, []⟩
  have s3 := sgn_len f
  intro t ht
  unfold ftk osg at ht
  split at ht
  · simp at ht; rcases ht with rfl | rfl <;> (first | omega | simp)
  split at ht
  · simp at ht; rcases ht with rfl | rfl <;> (first | omega | simp)
  split at ht
  · simp at ht; rcases ht with rfl | rfl <;> (first | omega | simp)
  split at ht
  · simp at ht; rcases ht with rfl | rfl | rfl <;> (first | omega | simp)
  split at ht
  · rename_i h10
    simp at ht
    subst ht
    have := wk_len (s := f.nm) (by rw [h h10]; decide)
    omega
  · simp at ht; subst ht; omega
theorem toks_tok : ∀ t : Nd Sv, AllN (fun s => sok s = true ∧ ar s = 0) (fun s => sok s = true ∧ ar s ≠ 0) t → ∀ x ∈ toks (fa nt) ff t, x.length ≤ 30 := by
  intro t
  induction t with
  | «at» s =>
    intro h x hx
    simp only [toks, fa] at hx
    split at hx
    · rename_i h1
      obtain ⟨n, hn, rfl⟩ := List.mem_map.1 hx
      have hr := (sok_nums h.1 h1).1 n hn
      have := nt_len n (by omega) (by omega)
      omega
    · rename_i h1
      simp at hx
      subst hx
      have h2 : s.k = 2 := by
        rcases sok_kind h.1 with k | k | k | k
        · exact absurd k h1
        · exact k
        · exact absurd h.2 (by simp [ar, k])
        · exact absurd h.2 (by simp [ar, k])
      have hs := h.1
      unfold sok at hs
      rw [if_neg h1, if_pos h2] at hs
      simp only [Bool.and_eq_true, decide_eq_true_eq] at hs
      have := wk_len (s := s.nm) (by rw [hs.1.1]; decide)
      omega
  | one s r ih =>
    intro h x hx
    simp only [toks, ff] at hx
    rcases List.mem_append.1 hx with hx | hx
    · exact ftk_tok (fn_call h.1.1 h.1.2) x hx
    · exact ih h.2 x hx
  | two s l r il ir =>
    intro h x hx
    simp only [toks, ff] at hx
    rcases List.mem_append.1 hx with hx | hx
    · cases hb : bareN l with
      | true => rw [hb] at hx; exact il h.2.1 x hx
      | false =>
        rw [hb] at hx
        simp only [List.mem_cons, List.mem_append, List.not_mem_nil, or_false] at hx
        rcases hx with rfl | hx | rfl
        · simp
        · exact il h.2.1 x hx
        · simp
    · rcases List.mem_append.1 hx with hx | hx
      · exact ftk_tok (fn_call h.1.1 h.1.2) x hx
      · exact ir h.2.2 x hx
theorem txt_ne : ∀ t : Nd Sv, AllN (fun s => sok s = true ∧ ar s = 0) (fun s => sok s = true ∧ ar s ≠ 0) t → txt (ta nt) tf t ≠ [] := by
  intro t h
  cases t with
  | «at» s =>
    show ta nt s ≠ []
    unfold ta fa
    split
    · rename_i h1
      have hs := h.1
      unfold sok at hs
      rw [if_pos h1] at hs
      simp only [numsB, Bool.and_eq_true, decide_eq_true_eq] at hs
      match e : s.nums, hs with
      | [], hs => simp at hs
      | x :: l, _ =>
        obtain ⟨c, r, hc, _⟩ := nt_head x
        simp [sp, hc]
    · rename_i h1
      have h2 : s.k = 2 := by
        rcases sok_kind h.1 with k | k | k | k
        · exact absurd k h1
        · exact k
        · exact absurd h.2 (by simp [ar, k])
        · exact absurd h.2 (by simp [ar, k])
      have hs := h.1
      unfold sok at hs
      rw [if_neg h1, if_pos h2] at hs
      simp only [Bool.and_eq_true, decide_eq_true_eq] at hs
      intro e
      have : s.nm = [] := by simpa [sp, spt] using e
      rw [this] at hs
      exact absurd hs.1.1 (by decide)
  | one s r => simp [txt]
  | two s l r => simp [txt]
theorem xt_of_run {c : List Sv} {t : Nd Sv} (h1 : c.all sok = true) (h2 : run ar c [] = some [t]) : xt nt c = if nest t ≤ 40 then some (sp tg (toks (fa nt) ff t)) else none := by
  rw [← xt_eq nt_fine c]
  unfold xtI
  rw [if_pos h1, h2]
theorem xt_of_not {c : List Sv} (h : ∀ t, ¬ (c.all sok = true ∧ run ar c [] = some [t])) : xt nt c = none := by
  rw [← xt_eq nt_fine c]
  unfold xtI
  split
  · rename_i h1
    split
    · rename_i t e; exact absurd ⟨h1, e⟩ (h t)
    · rfl
  · rfl
theorem node_facts {c : List Sv} {t : Nd Sv} (hsm : Small c) (h1 : c.all sok = true) (h2 : run ar c [] = some [t]) : t.post.length ≤ 1048576 ∧ (∀ s ∈ t.post, sok s = true) ∧ (toks (fa nt) ff t).length ≤ 10000000 ∧ (∀ x ∈ toks (fa nt) ff t, x.length ≤ 30) ∧ sp tg (toks (fa nt) ff t) ≠ [] := by
  obtain ⟨hp, hw⟩ := run_posts h2
  have hs : ∀ s ∈ t.post, sok s = true := by rw [← hp]; exact List.all_eq_true.1 h1
  have ha := all_post hw hs
  refine ⟨by rw [← hp]; exact hsm.len, hs, ?_, toks_tok t ha, ?_⟩
  · have := toks_len t
    have h3 := hsm.sz
    rw [hp] at h3
    omega
  · rw [node_text nt_fine hw hs]
    exact txt_ne t ha
end Pl
theorem ret_x {a b : ByteArray} {x y : Bool} (h : a = b) (h2 : x = y) : Ending.returned (.tuple #[.string a, .bool x]) = .returned (.tuple #[.string b, .bool y]) := by rw [h, h2]
set_option maxHeartbeats 8000000 in
/-- impl.exprText -/
theorem exprText_any (c : List Pl.Sv) (ao : Option Addr) (cap mb mo cp : Nat) (hsm : Pl.Small c) (w : World) (he : Ev w mb mo cp) (hR : RdS w.heap.size w ao c) :
    Calls Tryz.prog 43 #[.slice ao c.length cap] w fun e w' => e = .returned (.tuple #[.string (Pl.ba ((Pl.xt Pl.nt c).getD [])), .bool (Pl.xt Pl.nt c).isSome]) ∧ Below w.heap.size w w' := by
  have K := hideP (nodeOf_any c ao cap mb mo cp hsm w he.mt hR)
  have HSM := hideP hsm
  have HEV := hideP he
  clear hR he hsm
  generalize c.length = L at *
  generalize hx : Pl.xt Pl.nt c = x at *
  have HX := hideP hx
  clear hx
  go_enter Tryz.func43, Tryz.ntmps43
  go_wp2_with fail
  refine K.out.mono ?_
  rintro e w1 ⟨hb1, hpost⟩
  have H1 := hideP hb1
  clear hb1
  rcases hpost with ⟨t, v, hall, hrun, rfl, hv⟩ | ⟨hno, rfl⟩
  · have HXT := hideP (Pl.xt_of_run hall hrun)
    obtain ⟨f1, f2, f3, f4, f5⟩ := Pl.node_facts HSM.out hall hrun
    have hv1 : NdV w1.heap.size w1 t v := hv.up H1.out.size
    have hev1 : Ev w1 mb mo cp := HEV.out.keep H1.out
    have TC := hideP (nodeTokens_any mb mo cp w1 hev1 t v hv1 f1 f2)
    have NS := hv1.nsk f1
    have K60 : Hid (∀ w2, Below w1.heap.size w1 w2 → Calls Tryz.prog 60 #[.slice none 0 0, v] w2 (TokPost w1.heap.size [] (Pl.toks (Pl.fa Pl.nt) Pl.ff t) w2)) := fun w2 h2 => TC.out w2 w1.heap.size (.slice none 0 0) [] ⟨h2, Nat.le_refl _, h2.size, World.ownsRow_nil _ _ _ _, by simp⟩ (by simp; omega)
    have KSP : Hid (∀ (g cap' : Nat) w3, g < w3.heap.size → (∀ (j : Nat) (y : List UInt8), (Pl.toks (Pl.fa Pl.nt) Pl.ff t)[j]? = some y → w3.cell? ⟨g, j, none⟩ = some (.string (Pl.ba y))) → Calls Tryz.prog 59 #[.slice (some ⟨g, 0, none⟩) (Pl.toks (Pl.fa Pl.nt) Pl.ff t).length cap'] w3 fun e w' => e = .returned (.string (Pl.ba (Pl.sp Pl.tg (Pl.toks (Pl.fa Pl.nt) Pl.ff t)))) ∧ Below w3.heap.size w3 w') := fun g cap' w3 hg hc => spaced_any _ g cap' w3 hg f3 f4 hc f5
    have HPOS : Hid (0 < (Pl.toks (Pl.fa Pl.nt) Pl.ff t).length) := by
      refine List.length_pos_iff.2 (fun e => f5 ?_)
      rw [e]; rfl
    obtain ⟨T, p, fn, fb, rfl, m1, m2, e1, e2, k1, k2⟩ := NS
    have KN := hideP k1
    have hnb : Pl.nest t ≤ 1048576 := by have := Pl.nest_le t; omega
    clear k1 k2 m2 e2 hall hrun hv hv1 hev1 TC f1 f2 f3 f4 f5
    generalize Pl.toks (Pl.fa Pl.nt) Pl.ff t = TT at *
    generalize Pl.nest t = q at *
    go_wp2_with fail
    refine (KN.out _).mono ?_
    rintro e w2 ⟨rfl, hb2⟩
    have H2 := hideP hb2
    clear hb2
    by_cases hq : q ≤ 40
    · have HXX := hideP (show x = some (Pl.sp Pl.tg TT) by rw [← HX.out, HXT.out, if_pos hq])
      have hq' : ¬ ((q : Int) > 40) := by omega
      go_wp2_with fail
      refine (K60.out _ H2.out).mono ?_
      rintro e w3 ⟨v3, rfl, o3, b3, _⟩
      rw [List.nil_append] at o3
      obtain ⟨m, hm⟩ : ∃ m, TT.length = m + 1 := ⟨TT.length - 1, by have := HPOS.out; omega⟩
      rw [hm] at o3
      obtain ⟨g, cg, rfl⟩ := owns_succ o3
      have hglt := (o3.lt g rfl).2
      have K59 := hideP (KSP.out g cg w3 hglt (fun j y hj => by
        have hj2 := (List.getElem?_eq_some_iff.1 hj).1
        have := o3.cellAt j (by omega)
        rw [this, List.getElem?_map, hj]
        rfl))
      rw [hm] at K59
      have B3 : Hid (Below w.heap.size w w3) := H1.out.trans ((H2.out.mono H1.out.size).trans (b3.mono H1.out.size))
      clear o3 b3 KSP K60
      go_wp2_with (go_at_call 59; refine K59.out.mono ?_; rintro e w4 ⟨rfl, hb4⟩)
      go_ret2
      exact ⟨ret_x (by rw [HXX.out]; rfl) (by rw [HXX.out]; rfl), B3.out.trans (hb4.mono B3.out.size)⟩
    · have HXX := hideP (show x = none by rw [← HX.out, HXT.out, if_neg hq])
      have hq' : (q : Int) > 40 := by omega
      clear K60 KSP
      go_wp2_with fail
      go_ret2
      exact ⟨ret_x (by rw [HXX.out]; rfl) (by rw [HXX.out]; rfl), H1.out.trans (H2.out.mono H1.out.size)⟩
  · have HXX := hideP (show x = none by rw [← HX.out]; exact Pl.xt_of_not hno)
    clear hno
    go_wp2_with fail
    go_ret2
    exact ⟨ret_x (by rw [HXX.out]; rfl) (by rw [HXX.out]; rfl), H1.out⟩
end Go.Proofs.YtljkolffjjhgeaaGreatDoor
