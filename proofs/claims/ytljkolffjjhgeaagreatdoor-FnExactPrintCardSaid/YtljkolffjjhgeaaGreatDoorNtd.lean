import Derived.Test.YtljkolffjjhgeaaGreatDoorNta
namespace Go.Proofs.YtljkolffjjhgeaaGreatDoor
open Go.RowKit
set_option linter.unusedVariables false
set_option maxRecDepth 100000
set_option maxHeartbeats 4000000 in
theorem nodeTokens_one (s : Pl.Sv) (r : Pl.Nd Pl.Sv) (vr : Value) (mb mo cp : Nat) (w0 w : World) (he : Ev w0 mb mo cp) (hi : ∃ T p, vr = .iface T p) (hc : TkC w0 r vr) (base : Nat) (v0 : Value) (l0 : List (List UInt8)) (h : Tk w0 w base v0 l0) (hl : l0.length + (Pl.ftk s.fn ++ Pl.toks (Pl.fa Pl.nt) Pl.ff r).length ≤ 100000000) :
    Calls Tryz.prog 60 #[v0, .iface 125 (.agg #[.int .i64 s.fn.k, .int .i64 s.fn.a, .int .i64 s.fn.b, .string (Pl.ba s.fn.nm), vr])] w (TokPost base l0 (Pl.ftk s.fn ++ Pl.toks (Pl.fa Pl.nt) Pl.ff r) w) := by
  obtain ⟨T, p, rfl⟩ := hi
  have HT := hideP h
  have HC : Hid (∀ (w : World) (base : Nat) (v0 : Value) (l0 : List (List UInt8)), Tk w0 w base v0 l0 → l0.length + (Pl.toks (Pl.fa Pl.nt) Pl.ff r).length ≤ 100000000 → Calls Tryz.prog 60 #[v0, .iface T p] w (TokPost base l0 (Pl.toks (Pl.fa Pl.nt) Pl.ff r) w)) := hc
  obtain ⟨xo, yo, rfl, hyo⟩ := owns_form h.ow
  have t1 := ta125_121 (.agg #[.int .i64 s.fn.k, .int .i64 s.fn.a, .int .i64 s.fn.b, .string (Pl.ba s.fn.nm), .iface T p])
  have t2 := ta125_123 (.agg #[.int .i64 s.fn.k, .int .i64 s.fn.a, .int .i64 s.fn.b, .string (Pl.ba s.fn.nm), .iface T p])
  have t3 := ta125_125 (.agg #[.int .i64 s.fn.k, .int .i64 s.fn.a, .int .i64 s.fn.b, .string (Pl.ba s.fn.nm), .iface T p])
  have HB : Hid (∀ o, Below w.heap.size w (w.alloc o)) := fun o => (Below.refl _ _).alloc (Nat.le_refl _) _
  have HK : Hid (∀ o, (w.alloc o).heap[w.heap.size]? = some o) := fun o => heap_alloc_new w o
  have KF : Hid (∀ o, Calls Tryz.prog 74 #[.agg #[.int .i64 s.fn.k, .int .i64 s.fn.a, .int .i64 s.fn.b, .string (Pl.ba s.fn.nm)]] (w.alloc o) (FnkPost (Pl.ftk s.fn) (w.alloc o))) := fun o => fnTokens_any s.fn mb mo cp (w.alloc o) (he.keep (HT.out.keep (HB.out o)).hw).mt
  rw [List.length_append] at hl
  have L1 : Hid (l0.length + (Pl.ftk s.fn).length ≤ 4000000000) := by show _ ≤ _; omega
  have L2 : Hid ((l0 ++ Pl.ftk s.fn).length + (Pl.toks (Pl.fa Pl.nt) Pl.ff r).length ≤ 100000000 ∧ (l0 ++ Pl.ftk s.fn).length ≤ 100000000) := by rw [List.length_append]; exact ⟨by omega, by omega⟩
  clear he hc hl h
  generalize Pl.toks (Pl.fa Pl.nt) Pl.ff r = L at *
  generalize hF : Pl.ftk s.fn = F at *
  clear hF
  generalize Pl.ba s.fn.nm = fnm at *
  generalize s.fn.k = fk at *
  generalize s.fn.a = fa at *
  generalize s.fn.b = fb at *
  go_enter Tryz.func60, Tryz.ntmps60
  go_wp2_with fail
  refine (KF.out _).mono ?_
  rintro e w1 ⟨fb1, rfl, hcells, hb1, hf1, hf2⟩
  have H1 := hideP ((HB.out _).trans (hb1.mono (by simp)))
  have Q1 := hideP (Ok9.of_below hb1)
  have HBLK := hideP (Q1.out.2 _ _ _ _ (HK.out _) (by decide))
  have O1 := hideP (HT.out.keep H1.out).ow
  have z1 := (HT.out.keep H1.out).b1
  have CE := hideP hcells
  clear hcells hb1 hf1 hf2 KF
  generalize hFL : F.length = fl at *
  have HFL := hideP hFL
  clear hFL
  go_wp2_with (at_builtin; refine wpList_append9 (base := base) w1 rfl (.tmp 39) (.tmp 42) rfl (.slice xo l0.length yo) (.slice (some ⟨fb1, 0, none⟩) fl fl) rfl rfl l0 F fl fb1 fl HFL.out.symm rfl O1.out CE.out (by rw [HFL.out]; exact L1.out) z1 ?_)
  intro v2 w2 h1 h2 h3
  have o2 : w2.ownsRow base 9 1 v2 (l0 ++ F).length ((l0 ++ F).map tv) := by simpa using h1
  have B2 : Hid (Below base w w2) := (H1.out.mono HT.out.b1).trans h2
  have Q2 : Hid (Ok9 w w2) := (Ok9.of_below H1.out).trans h3
  have T2 := hideP (HT.out.next o2 B2.out L2.out.2)
  have hcell := Ok9.cell h3 HBLK.out (by decide) 4
  simp at hcell
  obtain ⟨x2, y2, eo, hy2⟩ := owns_form o2
  subst eo
  have K := hideP (HC.out w2 base _ _ T2.out L2.out.1)
  have HE : Hid (∀ e w', TokPost base (l0 ++ F) L w2 e w' → TokPost base l0 (F ++ L) w e w') := fun e w' hp => hp.after B2.out Q2.out
  clear h1 h2 h3 o2 CE O1 HBLK T2 L2
  generalize l0 ++ F = M at *
  go_wp2_with fail
  refine K.out.mono ?_
  rintro e w3 hp
  have H := hideP (HE.out _ _ hp)
  obtain ⟨v', rfl, _⟩ := hp
  go_wp2_with fail
  go_ret
  exact H.out
end Go.Proofs.YtljkolffjjhgeaaGreatDoor
