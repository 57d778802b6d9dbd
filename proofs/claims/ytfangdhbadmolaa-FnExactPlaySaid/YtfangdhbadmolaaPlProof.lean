import Derived.Test.YtfangdhbadmolaaLawP
import Derived.Test.YtfangdhbadmolaaArgs
namespace Go.Proofs.Ytfangdhbadmolaa
open Go.ChangeShapes Go.WideShapes Go.ChangeAt Go.RowKit Go.Joins
set_option linter.unusedVariables false

theorem Try.cells44 : Try.prog.cellsOf 44 = 4 := by kernel_rfl
theorem Try.cells3 : Try.prog.cellsOf 3 = 1 := by kernel_rfl

set_option maxRecDepth 100000 in
/-- one act that came in -/
theorem act_of_trod {H : Type} {enc : TypeId × Value → H} {W : World} {n : Nat} {cs : List Value} {y : DataW H × List MemPlace} (h : DataW.trod enc Try.prog W 0 (fun _ => true) true n 44 cs = some y) :
    ∃ a : Pl.Ac, cs = [.int .i64 a.kind, .string a.name, .string a.to, .string a.data] ∧ a.name.size ≤ 9223372036854775807 ∧ a.to.size ≤ 9223372036854775807 ∧ a.data.size ≤ 9223372036854775807 := by
  obtain ⟨y0, y1, y2, y3, n, _, hl, h0, h1, h2, h3⟩ := trod_struct4 Try.underlying44 h
  rw [Try.cells44] at hl
  match cs, hl with
  | [c0, c1, c2, c3], _ =>
    simp [Try.cells3, Try.cells9] at h0 h1 h2 h3
    obtain ⟨k, e0, _, _⟩ := DataW.trod_int Try.underlying3 h0
    obtain ⟨s1, e1, _, z1⟩ := DataW.trod_string Try.underlying9 h1
    obtain ⟨s2, e2, _, z2⟩ := DataW.trod_string Try.underlying9 h2
    obtain ⟨s3, e3, _, z3⟩ := DataW.trod_string Try.underlying9 h3
    simp at e0 e1 e2 e3
    unfold maxLen at z1 z2 z3
    exact ⟨⟨k, s1, s2, s3⟩, by rw [e0, e1, e2, e3], by simp only; omega, by simp only; omega, by simp only; omega⟩

/-- the acts that came in -/
theorem acts_of_trod {H : Type} {enc : TypeId × Value → H} {W : World} {n : Nat} {v : Value} {y : DataW H × List MemPlace} (h : DataW.trod enc Try.prog W 0 (fun _ => true) true n 25 [v] = some y) :
    ∃ qs : List Pl.Ac, qs.length ≤ 9223372036854775807 ∧ Pl.SzA qs ∧ RdA W.heap.size W v qs := by
  rcases Go.Deep.open_slice Try.underlying25 h with ⟨hcs, _⟩ | ⟨a, len, cap, m, n', D, P, hcs, _, hl, hm, hmm, _, hx⟩
  · simp at hcs
    subst hcs
    exact ⟨[], by simp, (fun a ha => by cases ha), none, 0, rfl, .inl rfl⟩
  · simp at hcs
    subst hcs
    simp only [if_true] at hmm
    unfold maxLen at hm
    have each : ∀ i, ∃ q : Pl.Ac, i < len → (W.cell? (a.add (i * 4)) = some (.int .i64 q.kind) ∧ W.cell? (a.add (i * 4 + 1)) = some (.string q.name) ∧ W.cell? (a.add (i * 4 + 2)) = some (.string q.to) ∧ W.cell? (a.add (i * 4 + 3)) = some (.string q.data)) ∧ q.name.size ≤ 9223372036854775807 ∧ q.to.size ≤ 9223372036854775807 ∧ q.data.size ≤ 9223372036854775807 := by
      intro i
      by_cases hi : i < len
      · obtain ⟨cs', h1, h2⟩ := hx i (by omega)
        obtain ⟨q, rfl, z⟩ := act_of_trod h2
        rw [Try.cells44] at h1
        obtain ⟨_, hlen, hcell⟩ := World.cells?_some h1
        have e0 := hcell 0 (by omega)
        have e1 := hcell 1 (by omega)
        have e2 := hcell 2 (by omega)
        have e3 := hcell 3 (by omega)
        rw [Go.Deep.add_add] at e0 e1 e2 e3
        exact ⟨q, fun _ => ⟨⟨by simpa using e0, by simpa using e1, by simpa using e2, by simpa using e3⟩, z⟩⟩
      · exact ⟨Pl.noneA, fun h => absurd h hi⟩
    obtain ⟨f, hf⟩ : ∃ f : Nat → Pl.Ac, ∀ i, i < len → (W.cell? (a.add (i * 4)) = some (.int .i64 (f i).kind) ∧ W.cell? (a.add (i * 4 + 1)) = some (.string (f i).name) ∧ W.cell? (a.add (i * 4 + 2)) = some (.string (f i).to) ∧ W.cell? (a.add (i * 4 + 3)) = some (.string (f i).data)) ∧ (f i).name.size ≤ 9223372036854775807 ∧ (f i).to.size ≤ 9223372036854775807 ∧ (f i).data.size ≤ 9223372036854775807 := ⟨fun i => Classical.choose (each i), fun i => Classical.choose_spec (each i)⟩
    have hlen : ((List.range len).map f).length = len := by simp
    have hat : ∀ i, i < len → Pl.aa ((List.range len).map f) i = f i := by
      intro i hi
      simp [Pl.aa, List.getD, hi]
    refine ⟨(List.range len).map f, by rw [hlen]; omega, ?_, some a, cap, by rw [hlen], ?_⟩
    · intro g hg
      obtain ⟨i, hi, rfl⟩ := List.mem_map.1 hg
      exact (hf i (List.mem_range.1 hi)).2
    · rw [hlen]
      by_cases h0 : len = 0
      · exact .inl h0
      · obtain ⟨b, off, spot⟩ := a
        have hc := (hf 0 (by omega)).1.1
        have hspot : spot = none := by simpa [Addr.add] using World.cell?_spot hc
        subst hspot
        refine .inr ⟨b, off, ?_, rfl, fun i hi => ?_⟩
        · have := World.block_lt_of_cell? _ _ hc
          simpa [Addr.add] using this
        · obtain ⟨e0, e1, e2, e3⟩ := (hf i hi).1
          rw [hat i hi]
          rw [Addr.add_lit] at e0 e1 e2 e3
          exact ⟨e0, e1, e2, e3⟩

set_option maxRecDepth 100000 in
theorem acts_open {H : Type} {enc : TypeId × Value → H} {W : World} {base : Nat} {v : Value} {d : DataW H} {p : List MemPlace} (hv : Value.okWide Try.prog W .any base 25 v) (h : DataW.Trod enc Try.prog W 0 (fun _ => true) true 25 v d p) :
    ∃ qs : List Pl.Ac, qs.length ≤ 9223372036854775807 ∧ Pl.SzA qs ∧ RdA W.heap.size W v qs := by
  obtain ⟨a, l, c, rfl⟩ := okWide_slice Try.underlying25 hv
  obtain ⟨fuel, hf⟩ := h
  exact acts_of_trod (by simpa [Value.cells] using hf)

set_option maxRecDepth 100000 in
theorem play_lifted (os : Os) (started : os.Started) (H : Type) (enc : TypeId × Value → H) :
    ReturnsInHanded {} Try.checked os 3 .any (Rows.fnExactPlaySpec.pre6 enc Try.prog Try.f3 Rows.fnExactPlayRow.domain false) (Rows.fnExactPlaySpec.post enc Try.prog Try.f3 false true false false) := by
  refine returnsInHanded_of_change (C := Try.checked) Try.own started (by kernel_rfl) Try.func3
    (ChangeSpec.witness6 (enc := enc) (C := Try.checked) false ⟨#[], #[.agg #[.slice none 0 0], .slice none 0 0, .int .i64 0], []⟩ 8 (by kernel_rfl) (by kernel_rfl) (by kernel_rfl) (by kernel_rfl)) ?_
  intro W base args ds gs before hval0 hW hcnd _
  have hval : ∀ (j : Nat) t v, Try.f3.params[j]? = some t → args[j]? = some v → Value.okWide Try.prog W .any base t v := hval0
  have hW' := hW
  obtain ⟨p, q, hA0, hV, rfl, hfz, hnd⟩ := hW
  have hA : DataW.TrodAll enc Try.prog W 0 (fun _ => true) true Try.f3.params.toList args.toList ds p := hA0
  rw [Try.params3] at hA hval
  obtain ⟨v0, vs0, d0, ds0, p0, q0, hargs, rfl, rfl, h0, r0⟩ := trodAll_cons hA
  obtain ⟨v1, vs1, d1, ds1, p1, q1, rfl, rfl, rfl, h1, r1⟩ := trodAll_cons r0
  obtain ⟨v2, vs2, d2, ds2, p2, q2, rfl, rfl, rfl, h2, r2⟩ := trodAll_cons r1
  obtain ⟨rfl, rfl, rfl⟩ := trodAll_nil r2
  obtain rfl : args = #[v0, v1, v2] := by cases args; simp_all
  obtain ⟨rfl, rfl⟩ := trodVars_none hV
  have k0 := h0
  have k1 := h1
  have k2 := h2
  have lt0 : ∀ x ∈ p0, x.block < W.heap.size := by obtain ⟨m, hm⟩ := k0; exact DataW.trod_lt m _ _ _ hm
  have lt1 : ∀ x ∈ p1, x.block < W.heap.size := by obtain ⟨m, hm⟩ := k1; exact DataW.trod_lt m _ _ _ hm
  have lt2 : ∀ x ∈ p2, x.block < W.heap.size := by obtain ⟨m, hm⟩ := k2; exact DataW.trod_lt m _ _ _ hm
  obtain ⟨u0, fs, rfl, l0, z0, rd0⟩ := disk_open (hval 0 24 v0 rfl rfl) h0
  obtain ⟨qs, l1, z1, rd1⟩ := acts_open (hval 1 25 v1 rfl rfl) h1
  obtain ⟨mo, rfl, rfl, rfl, w2⟩ := open_int Try.underlying3 (hval 2 3 v2 rfl rfl) h2
  have hm : -9223372036854775808 ≤ mo ∧ mo ≤ 9223372036854775807 := by
    have e1 : IntKind.i64.min = -9223372036854775808 := by decide
    have e2 : IntKind.i64.max = 9223372036854775807 := by decide
    simp [Lit.wf, e1, e2] at w2
    omega
  clear hA0 hval0
  refine (lawPlay u0 v1 fs qs mo W l0 z0 l1 z1 hm.1 hm.2 rd0 rd1).mono fun e W' ⟨he, bel⟩ => ?_
  subst he
  exact ⟨_, rfl, _, _, _, [], _, [], hW', trodAll_mk1 (shut_bool Try.underlying4 _),
    (trodAll_cons_mk (Below.trod Try.laidOut (by kernel_rfl) (of_decide_eq_true (by kernel_rfl)) k0 bel lt0)
      (trodAll_cons_mk (Below.trod Try.laidOut (by kernel_rfl) (of_decide_eq_true (by kernel_rfl)) k1 bel lt1)
        (trodAll_cons_mk (Below.trod Try.laidOut (by kernel_rfl) (of_decide_eq_true (by kernel_rfl)) k2 bel lt2) trodAll_mk0))), rfl, bel.frame _, fun h => by cases h⟩

theorem exactPlay_holds : Rows.FnExactPlaySaid :=
  OpenClaim.holds_of_wide 3 Try.f3 rfl rfl rfl rfl rfl rfl rfl ⟨rfl, rfl, rfl, rfl, rfl⟩ rfl rfl rfl rfl rfl (by kernel_rfl) Try.func3 (by kernel_rfl)
    (of_decide_eq_true (by kernel_rfl)) (by unfold Func.isWrapper; first | (rw [if_pos (by decide +kernel)]; kernel_rfl) | (rw [if_neg (by decide +kernel)]; exact ⟨rfl, rfl⟩))
    (fun os started H enc _ => play_lifted os started H enc)
#print axioms exactPlay_holds

end Go.Proofs.Ytfangdhbadmolaa
