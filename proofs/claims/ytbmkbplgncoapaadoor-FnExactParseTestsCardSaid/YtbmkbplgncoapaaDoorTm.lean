import Derived.Test.YtbmkbplgncoapaaDoorTe
namespace Go.Proofs.YtbmkbplgncoapaaDoor
open Go.RowKit
set_option linter.unusedVariables false

/-- how many numbers there are in all -/
def tot (L : List (Value × List Int)) : Nat := (L.map fun p => p.2.length).sum
/-- the rows, numbered through from m on -/
def markL (m : Int) : List (Value × List Int) → List (Value × List Int)
  | [] => []
  | (u, zs) :: r => (u, Pl.marks m zs.length) :: markL (m + zs.length) r
theorem tot_snoc (X : List (Value × List Int)) (p : Value × List Int) : tot (X ++ [p]) = tot X + p.2.length := by simp [tot]
theorem markL_snoc (X : List (Value × List Int)) (u : Value) (zs : List Int) : ∀ m, markL m (X ++ [(u, zs)]) = markL m X ++ [(u, Pl.marks (m + tot X) zs.length)] := by
  induction X with
  | nil => intro m; simp [markL, tot]
  | cons p X ih =>
    intro m
    obtain ⟨v, ys⟩ := p
    rw [List.cons_append, markL, markL, ih]
    have e : m + (ys.length : Int) + (tot X : Int) = m + (tot ((v, ys) :: X) : Int) := by simp [tot]; omega
    rw [e]
    rfl
theorem markL_len (L : List (Value × List Int)) : ∀ m, (markL m L).length = L.length := by
  induction L with
  | nil => intro m; rfl
  | cons p X ih => intro m; obtain ⟨v, ys⟩ := p; rw [markL, List.length_cons, ih]; rfl
theorem markL_get {L : List (Value × List Int)} {i : Nat} {u : Value} {zs : List Int} (h : L[i]? = some (u, zs)) (m : Int) : (markL m L)[i]? = some (u, Pl.marks (m + tot (L.take i)) zs.length) := by
  induction L generalizing i m with
  | nil => simp at h
  | cons p X ih =>
    obtain ⟨v, ys⟩ := p
    cases i with
    | zero =>
      simp at h
      obtain ⟨rfl, rfl⟩ := h
      simp [markL, tot]
    | succ i =>
      have := ih (i := i) (by simpa using h) (m + ys.length)
      rw [markL, List.getElem?_cons_succ, this, List.take_succ_cons]
      have e : m + (ys.length : Int) + (tot (X.take i) : Int) = m + (tot ((v, ys) :: X.take i) : Int) := by simp [tot]; omega
      rw [e]
theorem tot_le (L : List (Value × List Int)) (h : ∀ p ∈ L, p.2.length ≤ 1000) : tot L ≤ 1000 * L.length := by
  induction L with
  | nil => simp [tot]
  | cons p X ih =>
    have h1 := ih (fun q hq => h q (List.mem_cons_of_mem _ hq))
    have h2 := h p (List.mem_cons_self ..)
    simp only [tot, List.map_cons, List.sum_cons, List.length_cons] at h1 ⊢
    omega
theorem tot_take_le (L : List (Value × List Int)) (i : Nat) : tot (L.take i) ≤ tot L := by
  have : tot L = tot (L.take i) + tot (L.drop i) := by
    unfold tot
    rw [← List.sum_append, ← List.map_append, List.take_append_drop]
  omega

theorem apart_symm {u0 u1 : Value} {a b : List Int} (h : Apart u0 u1 a b) : Apart u1 u0 b a := by
  rcases h with h | h | h
  · exact .inr (.inl h)
  · exact .inl h
  · exact .inr (.inr fun b e0 e1 => h b e1 e0)

/-- one of the rows is written -/
theorem Fl.mark {B : Nat} {w w' : World} {X Y : List (Value × List Int)} {u : Value} {zs zs' : List Int} (h : Fl B w (X ++ (u, zs) :: Y)) (hg : w.grownBy w' (rowOf u zs)) (ho : Own B w' u zs') (hl : zs'.length = zs.length) : Fl B w' (X ++ (u, zs') :: Y) := by
  obtain ⟨h1, h2⟩ := h
  rw [List.pairwise_append, List.pairwise_cons] at h2
  obtain ⟨hX, ⟨hu, hY⟩, hXY⟩ := h2
  refine ⟨fun p hp => ?_, ?_⟩
  · rcases List.mem_append.1 hp with hp | hp
    · exact (h1 p (by simp [hp])).grown hg (fun k hk e => rows_apart (hXY p hp (u, zs) (by simp)) k e hk)
    · rcases List.mem_cons.1 hp with rfl | hp
      · exact ho
      · exact (h1 p (by simp [hp])).grown hg (fun k hk e => rows_apart (hu p hp) k hk e)
  · rw [List.pairwise_append, List.pairwise_cons]
    refine ⟨hX, ⟨fun q hq => apart_len (hu q hq) hl rfl, hY⟩, fun p hp q hq => ?_⟩
    rcases List.mem_cons.1 hq with rfl | hq
    · exact apart_len (hXY p hp (u, zs) (by simp)) rfl hl
    · exact hXY p hp q (by simp [hq])

/-- the first i rows are numbered -/
structure Mk (B g n cap : Nat) (m : Int) (L : List (Value × List Int)) (w0 : World) (i : Nat) (w : World) : Prop where
  own : w.ownsRow B 104 4 (.slice (some ⟨g, 0, none⟩) n cap) n (L.map (·.1))
  fl : Fl B w (markL m (L.take i) ++ L.drop i)
  bel : Below B w0 w
theorem drop_get {L : List (Value × List Int)} {i : Nat} {p : Value × List Int} (h : L[i]? = some p) : L.drop i = p :: L.drop (i + 1) ∧ L.take (i + 1) = L.take i ++ [p] := by
  obtain ⟨hlt, e⟩ := List.getElem?_eq_some_iff.1 h
  exact ⟨by rw [List.drop_eq_getElem_cons hlt, e], by rw [List.take_add_one, h]; rfl⟩
theorem Mk.row {B g n cap : Nat} {m : Int} {L : List (Value × List Int)} {w0 w : World} {i : Nat} (h : Mk B g n cap m L w0 i w) {u : Value} {zs : List Int} (hi : L[i]? = some (u, zs)) : Own B w u zs := by
  have := h.fl.1 (u, zs) (by rw [(drop_get hi).1]; simp)
  exact this
theorem Mk.cell {B g n cap : Nat} {m : Int} {L : List (Value × List Int)} {w0 w : World} {i j : Nat} (h : Mk B g n cap m L w0 i w) {u : Value} {zs : List Int} (hj : L[j]? = some (u, zs)) : w.cell? ⟨g, j, none⟩ = some u :=
  rows_cell h.own j u (by rw [List.getElem?_map, hj]; rfl)
theorem Mk.step {B g n cap : Nat} {m : Int} {L : List (Value × List Int)} {w0 w w' : World} {i : Nat} (h : Mk B g n cap m L w0 i w) {u : Value} {zs : List Int} (hi : L[i]? = some (u, zs)) (hB : B ≤ w.heap.size)
    (hcond : ∀ p ∈ L, ∀ k, rowOf p.1 p.2 = some k → ¬ g = k) (hg : w.grownBy w' (rowOf u zs)) (ho : Own B w' u (Pl.marks (m + tot (L.take i)) zs.length)) : Mk B g n cap m L w0 (i + 1) w' := by
  obtain ⟨e1, e2⟩ := drop_get hi
  refine ⟨h.own.kept hg (.inr ?_), ?_, ?_⟩
  · intro hh
    exact hcond (u, zs) (List.mem_of_getElem? hi) g hh.symm rfl
  · have hf := h.fl
    rw [e1] at hf
    have := hf.mark hg ho (Pl.marks_len _ _)
    rw [e2, markL_snoc, List.append_assoc]
    exact this
  · exact h.bel.grown hg hB (fun k hk => (rowOf_ge (h.row hi) k hk).1)

theorem sum_i (m : Int) (L : List (Value × List Int)) {i : Nat} {u : Value} {zs : List Int} (hi : L[i]? = some (u, zs)) : m + (tot (L.take i) : Int) + (zs.length : Int) = m + (tot (L.take (i + 1)) : Int) := by
  rw [(drop_get hi).2, tot_snoc]
  simp only
  omega

theorem mark_step {B g n cap : Nat} {m : Int} {L : List (Value × List Int)} {w0 : World} {i : Nat} (hm0 : 0 ≤ m) (hm1 : m ≤ 10) (hL : ∀ p ∈ L, p.2.length ≤ 1000) (hl : L.length ≤ 80) (hB : B ≤ w0.heap.size)
    (hcond : ∀ p ∈ L, ∀ k, rowOf p.1 p.2 = some k → ¬ g = k) {u : Value} {zs : List Int} (hi : L[i]? = some (u, zs)) (w : World) (h : Mk B g n cap m L w0 i w) :
    Calls Tryd.prog 52 #[u, .int .i64 (m + tot (L.take i))] w fun e w' => e = .returned (.int .i64 (m + tot (L.take (i + 1)))) ∧ Mk B g n cap m L w0 (i + 1) w' := by
  have hz := hL _ (List.mem_of_getElem? hi)
  simp only at hz
  have ht := tot_le L hL
  have ht2 := tot_take_le L i
  refine (markIntS_any B u (m + tot (L.take i)) zs w (by omega) (by omega) (by omega) (h.row hi)).mono ?_
  rintro e w' ⟨rfl, hg, _, ho⟩
  exact ⟨by rw [sum_i m L hi], h.step hi (Nat.le_trans hB h.bel.size) hcond hg ho⟩

set_option maxRecDepth 100000 in
set_option maxHeartbeats 4000000 in
/-- laws.markTestS -/
theorem markTestS_core (B g n cap : Nat) (m : Int) (L : List (Value × List Int)) (w : World) (hm0 : 0 ≤ m) (hm1 : m ≤ 10) (hL : ∀ p ∈ L, p.2.length ≤ 1000) (hn : L.length = n * 4) (hn20 : n ≤ 20) (hB : B ≤ w.heap.size)
    (hcond : ∀ p ∈ L, ∀ k, rowOf p.1 p.2 = some k → ¬ g = k) (h : Mk B g n cap m L w 0 w) :
    Calls Tryd.prog 36 #[.slice (some ⟨g, 0, none⟩) n cap, .int .i64 m] w fun e w' => e = .returned (.int .i64 (m + tot L)) ∧ Mk B g n cap m L w (n * 4) w' := by
  have H0 := hideP h
  have HT : Hid (∀ i, tot (L.take i) ≤ 80000) := fun i => by
    have h1 := tot_le L hL
    have h2 := tot_take_le L i
    omega
  have KS := hideP (fun i u zs (hi : L[i]? = some (u, zs)) W hW => mark_step (B := B) (g := g) (n := n) (cap := cap) (w0 := w) hm0 hm1 hL (by omega) hB hcond hi W hW)
  have HN := hideP hn
  clear h hL hn hcond
  go_enter Tryd.func36, Tryd.ntmps36
  go_wp2_with fail
  go_loopw [1, 5] (fun c i wr => ∃ k : Nat, k ≤ n ∧ i = .int .i64 (k : Int) ∧ c = .int .i64 (m + tot (L.take (k * 4))) ∧ Hid (Mk B g n cap m L w (k * 4) wr)) (fun _ i _ => n - (intOf i).toNat)
  case atStart => exact ⟨0, Nat.zero_le _, rfl, by simp [tot], H0⟩
  case round =>
    obtain ⟨k, hk, rfl, rfl, hM⟩ := hrel
    by_cases hlt : k < n
    · have hlt' : (k : Int) < (n : Int) := by omega
      have get : ∀ j, j < 4 → ∃ u zs, L[k * 4 + j]? = some (u, zs) := fun j hj => by
        have : k * 4 + j < L.length := by rw [HN.out]; omega
        exact ⟨_, _, List.getElem?_eq_getElem this⟩
      obtain ⟨u0, z0, e0⟩ := get 0 (by omega)
      obtain ⟨u1, z1, e1⟩ := get 1 (by omega)
      obtain ⟨u2, z2, e2⟩ := get 2 (by omega)
      obtain ⟨u3, z3, e3⟩ := get 3 (by omega)
      rw [Nat.add_zero] at e0
      have E0 := hideP e0
      have E1 := hideP e1
      have E2 := hideP e2
      have E3 := hideP e3
      clear e0 e1 e2 e3 get
      have c0 := hM.out.cell E0.out
      go_wp2_with fail
      refine (KS.out _ _ _ E0.out _ hM.out).mono ?_
      rintro e w1 ⟨rfl, h1⟩
      have H1 := hideP h1
      have c1 := h1.cell E1.out
      clear h1 c0
      go_wp2_with fail
      refine (KS.out _ _ _ E1.out _ H1.out).mono ?_
      rintro e w2 ⟨rfl, h2⟩
      have H2 := hideP h2
      have c2 := h2.cell E2.out
      clear h2 c1
      go_wp2_with fail
      refine (KS.out _ _ _ E2.out _ H2.out).mono ?_
      rintro e w3 ⟨rfl, h3⟩
      have H3 := hideP h3
      have c3 := h3.cell E3.out
      clear h3 c2
      go_wp2_with fail
      refine (KS.out _ _ _ E3.out _ H3.out).mono ?_
      rintro e w4 ⟨rfl, h4⟩
      have H4 : Hid (Mk B g n cap m L w ((k + 1) * 4) w4) := by
        show Mk _ _ _ _ _ _ _ _ _
        rw [show (k + 1) * 4 = k * 4 + 3 + 1 by omega]
        exact h4
      have HS : Hid (tot (L.take (k * 4 + 3 + 1)) = tot (L.take ((k + 1) * 4))) := by show _ = _; rw [show (k + 1) * 4 = k * 4 + 3 + 1 by omega]
      clear h4 c3 H1 H2 H3 hM
      go_wp2_with fail
      go_roundw
      case rel => exact ⟨k + 1, by omega, by go_num, by rw [HS.out], H4⟩
      case measure => simp [intOf]; omega
    · have hlt' : ¬ (k : Int) < (n : Int) := by omega
      have kn : k = n := by omega
      have HS : Hid (tot (L.take (k * 4)) = tot L) := by show _ = _; rw [kn, ← HN.out, List.take_length]
      have HM : Hid (Mk B g n cap m L w (n * 4) wr) := by
        have e : k * 4 = n * 4 := by rw [kn]
        rw [← e]
        exact hM
      clear kn
      go_wp2_with fail
      go_ret
      exact ⟨ret_int (by rw [HS.out]), HM.out⟩

theorem markTestS_nil (ao : Option Addr) (cap : Nat) (m : Int) (w : World) (hm0 : 0 ≤ m) (hm1 : m ≤ 10) :
    Calls Tryd.prog 36 #[.slice ao 0 cap, .int .i64 m] w fun e w' => e = .returned (.int .i64 m) ∧ w' = w := by
  go_enter Tryd.func36, Tryd.ntmps36
  go_wp2_with fail
  go_loop [1, 5] (fun c i => i = .int .i64 0 ∧ c = .int .i64 m) (fun _ _ => 0)
  case atStart => exact ⟨rfl, rfl⟩
  case round =>
    obtain ⟨rfl, rfl⟩ := hrel
    go_wp2_with fail
    go_ret
    exact ⟨rfl, rfl⟩

theorem heldTestS_nil (ao : Option Addr) (cap : Nat) (m : Int) (w : World) (hm0 : 0 ≤ m) (hm1 : m ≤ 10) :
    Calls Tryd.prog 37 #[.slice ao 0 cap, .int .i64 m] w fun e w' => e = .returned (.int .i64 m) ∧ w' = w := by
  go_enter Tryd.func37, Tryd.ntmps37
  go_wp2_with fail
  go_loop [1, 5] (fun c i => i = .int .i64 0 ∧ c = .int .i64 m) (fun _ _ => 0)
  case atStart => exact ⟨rfl, rfl⟩
  case round =>
    obtain ⟨rfl, rfl⟩ := hrel
    go_wp2_with fail
    go_ret
    exact ⟨rfl, rfl⟩

theorem held_step {B g n cap : Nat} {m : Int} {L : List (Value × List Int)} {w0 : World} {i : Nat} (hm0 : 0 ≤ m) (hm1 : m ≤ 10) (hL : ∀ p ∈ L, p.2.length ≤ 1000) (hl : L.length ≤ 80)
    {u : Value} {zs : List Int} (hi : L[i]? = some (u, zs)) (w : World) (h : Mk B g n cap m L w0 L.length w) :
    Calls Tryd.prog 53 #[u, .int .i64 (m + tot (L.take i))] w fun e w' => e = .returned (.int .i64 (m + tot (L.take (i + 1)))) ∧ w' = w := by
  have hz := hL _ (List.mem_of_getElem? hi)
  simp only at hz
  have ht := tot_le L hL
  have ht2 := tot_take_le L i
  have ho : Own B w u (Pl.marks (m + tot (L.take i)) zs.length) := by
    have hf := h.fl.1
    rw [List.take_length, List.drop_length, List.append_nil] at hf
    exact hf _ (List.mem_of_getElem? (markL_get hi m))
  refine (heldIntS_any w.heap.size u (m + tot (L.take i)) zs.length w (by omega) (by omega) (by omega) ho.rd).mono ?_
  rintro e w' ⟨rfl, rfl⟩
  exact ⟨by rw [sum_i m L hi], rfl⟩

set_option maxRecDepth 100000 in
set_option maxHeartbeats 4000000 in
/-- laws.heldTestS -/
theorem heldTestS_core (B g n cap : Nat) (m : Int) (L : List (Value × List Int)) (w0 w : World) (hm0 : 0 ≤ m) (hm1 : m ≤ 10) (hL : ∀ p ∈ L, p.2.length ≤ 1000) (hn : L.length = n * 4) (hn20 : n ≤ 20) (h : Mk B g n cap m L w0 (n * 4) w) :
    Calls Tryd.prog 37 #[.slice (some ⟨g, 0, none⟩) n cap, .int .i64 m] w fun e w' => e = .returned (.int .i64 (m + tot L)) ∧ w' = w := by
  have H0 := hideP h
  have HT : Hid (∀ i, tot (L.take i) ≤ 80000) := fun i => by
    have h1 := tot_le L hL
    have h2 := tot_take_le L i
    omega
  have hM : Mk B g n cap m L w0 L.length w := by rw [hn]; exact h
  have KS := hideP (fun i u zs (hi : L[i]? = some (u, zs)) => held_step (B := B) (g := g) (n := n) (cap := cap) (w0 := w0) hm0 hm1 hL (by omega) hi w hM)
  have HN := hideP hn
  clear h hL hn hM
  go_enter Tryd.func37, Tryd.ntmps37
  go_wp2_with fail
  go_loop [1, 5] (fun c i => ∃ k : Nat, k ≤ n ∧ i = .int .i64 (k : Int) ∧ c = .int .i64 (m + tot (L.take (k * 4)))) (fun _ i => n - (intOf i).toNat)
  case atStart => exact ⟨0, Nat.zero_le _, rfl, by simp [tot]⟩
  case round =>
    obtain ⟨k, hk, rfl, rfl⟩ := hrel
    by_cases hlt : k < n
    · have hlt' : (k : Int) < (n : Int) := by omega
      have get : ∀ j, j < 4 → ∃ u zs, L[k * 4 + j]? = some (u, zs) := fun j hj => by
        have : k * 4 + j < L.length := by rw [HN.out]; omega
        exact ⟨_, _, List.getElem?_eq_getElem this⟩
      obtain ⟨u0, z0, e0⟩ := get 0 (by omega)
      obtain ⟨u1, z1, e1⟩ := get 1 (by omega)
      obtain ⟨u2, z2, e2⟩ := get 2 (by omega)
      obtain ⟨u3, z3, e3⟩ := get 3 (by omega)
      rw [Nat.add_zero] at e0
      have E0 := hideP e0
      have E1 := hideP e1
      have E2 := hideP e2
      have E3 := hideP e3
      have c0 := H0.out.cell e0
      have c1 := H0.out.cell e1
      have c2 := H0.out.cell e2
      have c3 := H0.out.cell e3
      clear e0 e1 e2 e3 get
      have t1 : ¬ (m + (tot (L.take (k * 4 + 1)) : Int) < 0) := by omega
      have t2 : ¬ (m + (tot (L.take (k * 4 + 1 + 1)) : Int) < 0) := by omega
      have t3 : ¬ (m + (tot (L.take (k * 4 + 2 + 1)) : Int) < 0) := by omega
      have t4 : ¬ (m + (tot (L.take (k * 4 + 3 + 1)) : Int) < 0) := by omega
      go_wp2_with fail
      refine (KS.out _ _ _ E0.out).mono ?_
      rintro e w' ⟨rfl, rfl⟩
      go_wp2_with fail
      refine (KS.out _ _ _ E1.out).mono ?_
      rintro e w' ⟨rfl, rfl⟩
      go_wp2_with fail
      refine (KS.out _ _ _ E2.out).mono ?_
      rintro e w' ⟨rfl, rfl⟩
      go_wp2_with fail
      refine (KS.out _ _ _ E3.out).mono ?_
      rintro e w' ⟨rfl, rfl⟩
      have HS : Hid (tot (L.take (k * 4 + 3 + 1)) = tot (L.take ((k + 1) * 4))) := by show _ = _; rw [show (k + 1) * 4 = k * 4 + 3 + 1 by omega]
      go_wp2_with fail
      go_round
      case rel => exact ⟨k + 1, by omega, by go_num, by rw [HS.out]⟩
      case measure => simp [intOf]; omega
    · have hlt' : ¬ (k : Int) < (n : Int) := by omega
      have kn : k = n := by omega
      have HS : Hid (tot (L.take (k * 4)) = tot L) := by show _ = _; rw [kn, ← HN.out, List.take_length]
      clear kn
      go_wp2_with fail
      go_ret
      exact ⟨ret_int (by rw [HS.out]), rfl⟩

end Go.Proofs.YtbmkbplgncoapaaDoor
