import Derived.Test.YtaopohihipihdaaGreatDoorMon5
import Derived.Test.YtaopohihipihdaaGreatDoorLoG
import Derived.Test.YtaopohihipihdaaGreatDoorG1
import Derived.Test.YtaopohihipihdaaGreatDoorDyAG
import Derived.Test.YtaopohihipihdaaGreatDoorDyB
import Derived.Test.YtaopohihipihdaaGreatDoorMonC
import Derived.Test.YtaopohihipihdaaGreatDoorSpec1b
import Derived.Test.YtaopohihipihdaaGreatDoorDyC
namespace Go.Proofs.YtaopohihipihdaaGreatDoor.Pl
set_option linter.unusedVariables false

theorem rowAt_mem {da : List Int} {s r : Nat} {x : Int} (h : x ∈ rowAt da s r) : x ∈ da := List.mem_of_mem_drop (List.mem_of_mem_take h)
theorem len_ins (k : Int → Int) (x : Int) (l : List Int) : (ins k x l).length = l.length + 1 := by
  induction l with
  | nil => rfl
  | cons y l ih => rw [ins]; split <;> simp [ih]
theorem len_grd (k : Int → Int) (a n : Nat) : (grd k a n).length = n := by
  induction n with
  | zero => rfl
  | succ n ih => rw [grd, len_ins, ih]

theorem prod_one {n : Int} (h0 : 0 ≤ n) (h1 : n ≤ 1000) : prodC [n] = n := by
  simp [prodC, stepC]
  omega

theorem ok_vec {xs : List Int} {n : Nat} (hn : n ≤ 1000) (hl : xs.length = n) (h : ∀ x ∈ xs, -3000000000 ≤ x ∧ x ≤ 3000000000) : okB [(n : Int)] xs = true := by
  have e := prod_one (n := (n : Int)) (by omega) (by omega)
  have hi : inR (n : Int) = true := by unfold inR; rw [decide_eq_true_eq]; omega
  simp only [okB, fitsB, baseB, Bool.and_eq_true, decide_eq_true_eq, List.all_eq_true, List.length_cons, List.length_nil, e, hl]
  exact ⟨⟨⟨⟨by omega, by intro x hx; simp at hx; rw [hx]; exact hi⟩, by omega⟩, trivial⟩, fun x hx => by unfold valB; rw [decide_eq_true_eq]; exact h x hx⟩


/-- rows laid one after another -/
theorem flatten_row {s : Nat} : ∀ (rs : List (List Int)), (∀ r ∈ rs, r.length = s) → ∀ i, i < rs.length → rowAt rs.flatten s i = rs.getD i [] := by
  intro rs
  induction rs with
  | nil => intro _ i hi; simp at hi
  | cons r rs ih =>
    intro h i hi
    have hr := h r (by simp)
    cases i with
    | zero =>
      show (((r :: rs).flatten).drop (0 * s)).take s = r
      rw [Nat.zero_mul, List.drop_zero, List.flatten_cons, List.take_append_of_le_length (by omega), List.take_of_length_le (by omega)]
    | succ i =>
      have := ih (fun x hx => h x (by simp [hx])) i (by simpa using hi)
      show (((r :: rs).flatten).drop ((i + 1) * s)).take s = (rs.getD i [])
      rw [← this]
      show _ = (rs.flatten.drop (i * s)).take s
      rw [List.flatten_cons, Nat.succ_mul, Nat.add_comm, ← List.drop_drop, List.drop_append_of_le_length (by omega), show r.drop s = [] from List.drop_of_length_le (by omega), List.nil_append]

theorem rows_flat {da : List Int} {s : Nat} : ∀ q, q * s ≤ da.length → ((List.range q).map (rowAt da s)).flatten = da.take (q * s) := by
  intro q
  induction q with
  | zero => intro _; simp
  | succ q ih =>
    intro h
    have h' : q * s ≤ da.length := by rw [Nat.succ_mul] at h; omega
    rw [List.range_succ, List.map_append, List.flatten_append, ih h']
    simp only [List.map_cons, List.map_nil, List.flatten_cons, List.flatten_nil, List.append_nil]
    unfold rowAt
    rw [Nat.succ_mul, List.take_add]

theorem down_rev (da : List Int) (s : Nat) : ∀ q, rowsDown da s q = ((List.range q).map (rowAt da s)).reverse := by
  intro q
  induction q with
  | zero => rfl
  | succ q ih => rw [rowsDown_succ, ih, List.range_succ, List.map_append, List.reverse_append]; rfl

theorem down_down {da : List Int} {s n : Nat} (hl : da.length = n * s) : (rowsDown (rowsDown da s n).flatten s n).flatten = da := by
  have h1 : ∀ r ∈ rowsDown da s n, r.length = s := by
    intro r hr
    rw [down_rev, List.mem_reverse, List.mem_map] at hr
    obtain ⟨i, hi, rfl⟩ := hr
    exact rowAt_len (by rw [hl]; exact Nat.mul_le_mul_right s (List.mem_range.1 hi))
  have hn : (rowsDown da s n).length = n := by rw [down_rev]; simp
  have h2 : (List.range n).map (rowAt (rowsDown da s n).flatten s) = rowsDown da s n := by
    apply List.ext_getElem
    · simp [hn]
    · intro i a b
      rw [List.getElem_map, List.getElem_range, flatten_row _ h1 i b]
      simp [List.getD, b]
  rw [down_rev (rowsDown da s n).flatten, h2, down_rev, List.reverse_reverse, rows_flat n (by omega), ← hl, List.take_length]

theorem down_flat_len {da : List Int} {s n : Nat} (hl : da.length = n * s) : (rowsDown da s n).flatten.length = da.length := by
  have h1 : ∀ r ∈ rowsDown da s n, r.length = s := by
    intro r hr
    rw [down_rev, List.mem_reverse, List.mem_map] at hr
    obtain ⟨i, hi, rfl⟩ := hr
    exact rowAt_len (by rw [hl]; exact Nat.mul_le_mul_right s (List.mem_range.1 hi))
  have hn : (rowsDown da s n).length = n := by rw [down_rev]; simp
  have : ∀ (rs : List (List Int)), (∀ r ∈ rs, r.length = s) → rs.flatten.length = rs.length * s := by
    intro rs
    induction rs with
    | nil => intro _; simp
    | cons r rs ih =>
      intro h
      rw [List.flatten_cons, List.length_append, h r (by simp), ih (fun x hx => h x (by simp [hx])), List.length_cons, Nat.succ_mul, Nat.add_comm]
  rw [this _ h1, hn, hl]

theorem down_in {da : List Int} {s n : Nat} : ∀ x ∈ (rowsDown da s n).flatten, x ∈ da := by
  intro x hx
  rw [List.mem_flatten] at hx
  obtain ⟨r, hr, hx⟩ := hx
  rw [down_rev, List.mem_reverse, List.mem_map] at hr
  obtain ⟨i, _, rfl⟩ := hr
  exact rowAt_mem hx

theorem ok_of_len' {sh da db : List Int} (h : okB sh da = true) (hl : db.length = da.length) (hv : ∀ x ∈ db, x ∈ da) : okB sh db = true := by
  simp only [okB, Bool.and_eq_true, decide_eq_true_eq] at h ⊢
  refine ⟨⟨h.1.1, by rw [hl]; exact h.1.2⟩, ?_⟩
  rw [List.all_eq_true] at h ⊢
  exact fun x hx => h.2 x (hv x hx)

/-- rev of rev -/
theorem rev_rev {sh da : List Int} (ok : okB sh da = true) : ∃ D, revM sh da = (0, sh, D) ∧ okB sh D = true ∧ revM sh D = (0, sh, da) := by
  by_cases h0 : sh.length = 0
  · have e : sh = [] := List.eq_nil_of_length_eq_zero h0
    subst e
    exact ⟨da, by simp [revM], ok, by simp [revM]⟩
  · obtain ⟨n, s, en, es, n1, s1, hl, hb⟩ := rows_size ok h0
    refine ⟨(rowsDown da s n).flatten, ?_, ok_of_len' ok (down_flat_len hl) down_in, ?_⟩
    · unfold revM
      rw [if_neg h0, en, es, Int.toNat_natCast, Int.toNat_natCast]
    · unfold revM
      rw [if_neg h0, en, es, Int.toNat_natCast, Int.toNat_natCast, down_down hl]


theorem flip_ix3 (a b c i : Nat) (ha : 0 < a) (hb : 0 < b) (hc : 0 < c) (hi : i < a * (b * c)) :
    ev [a, b, c] (plR [a, b, c] (ev [c, b, a] (plR [c, b, a] i))) = i ∧ ev [c, b, a] (plR [c, b, a] i) < a * (b * c) := by
  simp only [ev, plR, prdN, List.foldr_cons, List.foldr_nil, Nat.mul_one, Nat.add_zero]
  have hp : i / c / b < a := by
    rw [Nat.div_div_eq_div_mul]
    exact Nat.div_lt_of_lt_mul (by rw [Nat.mul_comm (c * b) a, Nat.mul_comm c b]; exact hi)
  have hq : i / c % b < b := Nat.mod_lt _ hb
  have hr : i % c < c := Nat.mod_lt _ hc
  have e0 : i = (i / c / b * b + i / c % b) * c + i % c := by
    rw [Nat.mul_comm (i / c / b) b, Nat.div_add_mod, Nat.mul_comm, Nat.div_add_mod]
  have ep : i / c / b % a = i / c / b := Nat.mod_eq_of_lt hp
  rw [ep]
  generalize i / c / b = p at *
  generalize i / c % b = q at *
  generalize i % c = r at *
  have j1 : (r * (b * a) + (q * a + p)) % a = p := by
    have : r * (b * a) + (q * a + p) = p + a * (r * b + q) := by
      rw [Nat.mul_add, Nat.mul_comm a (r * b), Nat.mul_comm a q, Nat.mul_assoc]
      omega
    rw [this, Nat.add_mul_mod_self_left, Nat.mod_eq_of_lt hp]
  have j2 : (r * (b * a) + (q * a + p)) / a = q + b * r := by
    have : r * (b * a) + (q * a + p) = p + a * (q + b * r) := by
      rw [Nat.mul_add, Nat.mul_comm a q, show a * (b * r) = r * (b * a) by rw [Nat.mul_comm, Nat.mul_comm b r, Nat.mul_assoc]]
      omega
    rw [this, Nat.add_mul_div_left _ _ ha, Nat.div_eq_of_lt hp, Nat.zero_add]
  rw [j1, j2, Nat.add_mul_mod_self_left, Nat.mod_eq_of_lt hq, Nat.add_mul_div_left _ _ hb, Nat.div_eq_of_lt hq, Nat.zero_add, Nat.mod_eq_of_lt hr]
  constructor
  · rw [e0, Nat.add_mul, Nat.mul_assoc]
    omega
  · have h1 : r + 1 ≤ c := hr
    have h2 : q + 1 ≤ b := hq
    have h3 := Nat.mul_le_mul_right (b * a) h1
    have h4 := Nat.mul_le_mul_right a h2
    rw [Nat.succ_mul] at h3 h4
    have h5 : c * (b * a) = a * (b * c) := by rw [Nat.mul_comm a (b * c), Nat.mul_comm b c, Nat.mul_assoc]
    omega

theorem flip_ix (ds : List Nat) (hl : ds.length ≤ 3) (h : ∀ d ∈ ds, 0 < d) (i : Nat) (hi : i < prdN ds) :
    ev ds (plR ds (ev ds.reverse (plR ds.reverse i))) = i ∧ ev ds.reverse (plR ds.reverse i) < prdN ds := by
  match ds, hl, h, hi with
  | [], _, _, hi =>
    have : i = 0 := by simpa [prdN] using hi
    subst this
    exact ⟨rfl, Nat.one_pos⟩
  | [a], _, h, hi =>
    have ha := h a (by simp)
    have hi' : i < a := by simpa [prdN] using hi
    simp only [List.reverse_cons, List.reverse_nil, List.nil_append, ev, plR, prdN, List.foldr_cons, List.foldr_nil, Nat.mul_one, Nat.add_zero]
    rw [Nat.mod_eq_of_lt hi', Nat.mod_eq_of_lt hi']
    exact ⟨rfl, hi'⟩
  | [a, b], _, h, hi =>
    have ha := h a (by simp)
    have hb := h b (by simp)
    have hi' : i < a * (b * 1) := by simpa [prdN] using hi
    have hi2 : i < a * b := by rw [Nat.mul_one] at hi'; exact hi'
    simp only [List.reverse_cons, List.reverse_nil, List.nil_append, List.cons_append, ev, plR, prdN, List.foldr_cons, List.foldr_nil, Nat.mul_one, Nat.add_zero]
    have hp : i / b < a := Nat.div_lt_of_lt_mul (by rw [Nat.mul_comm]; exact hi2)
    have hq : i % b < b := Nat.mod_lt _ hb
    have e0 : i = i / b * b + i % b := by rw [Nat.mul_comm, Nat.div_add_mod]
    rw [Nat.mod_eq_of_lt hp]
    generalize i / b = p at *
    generalize i % b = q at *
    have j1 : (q * a + p) % a = p := by rw [Nat.add_comm, Nat.mul_comm, Nat.add_mul_mod_self_left, Nat.mod_eq_of_lt hp]
    have j2 : (q * a + p) / a = q := by rw [Nat.add_comm, Nat.mul_comm, Nat.add_mul_div_left _ _ ha, Nat.div_eq_of_lt hp, Nat.zero_add]
    rw [j1, j2, Nat.mod_eq_of_lt hq]
    refine ⟨e0.symm, ?_⟩
    have h4 := Nat.mul_le_mul_right a (show q + 1 ≤ b from hq)
    rw [Nat.succ_mul, Nat.mul_comm b a] at h4
    omega
  | [a, b, c], _, h, hi =>
    have := flip_ix3 a b c i (h a (by simp)) (h b (by simp)) (h c (by simp)) (by simpa [prdN] using hi)
    simpa [prdN] using this
  | _ :: _ :: _ :: _ :: _, hl, _, _ => simp at hl

theorem prdN_rev (ds : List Nat) : prdN ds.reverse = prdN ds := by
  have app : ∀ (xs ys : List Nat), prdN (xs ++ ys) = prdN xs * prdN ys := by
    intro xs ys
    induction xs with
    | nil => simp [prdN]
    | cons x xs ih =>
      show x * prdN (xs ++ ys) = x * prdN xs * prdN ys
      rw [ih, Nat.mul_assoc]
  induction ds with
  | nil => rfl
  | cons d ds ih =>
    rw [List.reverse_cons, app, ih]
    show prdN ds * (d * 1) = d * prdN ds
    rw [Nat.mul_one, Nat.mul_comm]

theorem shN_rev (sh : List Int) : shN sh.reverse = (shN sh).reverse := by unfold shN; rw [List.map_reverse]

theorem base_rev {sh : List Int} (h : baseB sh = true) : baseB sh.reverse = true := by
  simp only [baseB, Bool.and_eq_true, decide_eq_true_eq, List.all_eq_true] at h ⊢
  exact ⟨by rw [List.length_reverse]; exact h.1, fun x hx => h.2 x (List.mem_reverse.1 hx)⟩

/-- flip of flip -/
theorem flip_flip {sh da : List Int} (ok : okB sh da = true) : ∃ D, flipM sh da = (0, sh.reverse, D) ∧ okB sh.reverse D = true ∧ flipM sh.reverse D = (0, sh, da) := by
  obtain ⟨hlen, hf⟩ := ok_len ok
  have hb : baseB sh = true := by simp only [fitsB, Bool.and_eq_true] at hf; exact hf.1
  have nn := fun x hx => (base_nonneg hb x hx).1
  have hP := prdN_eq sh nn
  have hN : da.length = prdN (shN sh) := by
    have := prod_eq hf
    rw [this, ← hP] at hlen
    exact_mod_cast hlen
  have h3 : (shN sh).length ≤ 3 := by
    unfold shN
    rw [List.length_map]
    exact (ok_max ok).1
  obtain ⟨D, hD⟩ : ∃ D, D = (List.range da.length).map fun i => da.getD (ev (shN sh) (plR (shN sh) i)) 0 := ⟨_, rfl⟩
  have lD : D.length = da.length := by rw [hD]; simp
  have pos : 0 < da.length → ∀ d ∈ shN sh, 0 < d := by
    intro h d hd
    rcases Nat.eq_zero_or_pos d with rfl | h'
    · exfalso
      have : ∀ ds : List Nat, 0 ∈ ds → prdN ds = 0 := by
        intro ds
        induction ds with
        | nil => intro h; cases h
        | cons x xs ih =>
          intro hm
          show x * prdN xs = 0
          rcases List.mem_cons.1 hm with h | h
          · rw [← h, Nat.zero_mul]
          · rw [ih h, Nat.mul_zero]
      rw [hN, this _ hd] at h
      omega
    · exact h'
  have ixlt : ∀ i, i < da.length → ev (shN sh) (plR (shN sh) i) < da.length := by
    intro i hi
    have hp := pos (by omega)
    rw [hN]
    exact ev_lt _ hp _ (plR_len _ _) (plR_lt _ hp i)
  have okD : okB sh.reverse D = true := by
    have okv : ∀ x ∈ D, x ∈ da := by
      intro x hx
      rw [hD, List.mem_map] at hx
      obtain ⟨i, hi, rfl⟩ := hx
      have := ixlt i (List.mem_range.1 hi)
      rw [show da.getD (ev (shN sh) (plR (shN sh) i)) 0 = da[ev (shN sh) (plR (shN sh) i)] by simp [List.getD, this]]
      exact List.getElem_mem this
    have hpr : prodP sh.reverse = prodP sh := by
      rw [← hP, ← prdN_eq sh.reverse (fun x hx => nn x (List.mem_reverse.1 hx)), shN_rev, prdN_rev]
    have hfr : fitsB sh.reverse = true := by
      rw [fits_eq] at hf ⊢
      rw [base_rev hb, hpr]
      simp only [Bool.and_eq_true] at hf
      simp only [Bool.true_and]
      exact hf.2
    have hok := ok
    simp only [okB, Bool.and_eq_true, decide_eq_true_eq] at hok ⊢
    refine ⟨⟨hfr, ?_⟩, ?_⟩
    · rw [lD, hok.1.2, prod_eq hf, prod_eq hfr, hpr]
    · rw [List.all_eq_true] at hok ⊢
      exact fun x hx => hok.2 x (okv x hx)
  refine ⟨D, ?_, okD, ?_⟩
  · unfold flipM
    rw [hD]
  · unfold flipM
    rw [List.reverse_reverse, lD]
    refine congrArg (fun z => ((0 : Int), sh, z)) ?_
    apply List.ext_getElem
    · simp
    · intro i h1 h2
      rw [List.getElem_map, List.getElem_range, shN_rev]
      have hp := pos (by omega)
      obtain ⟨e1, e2⟩ := flip_ix (shN sh) h3 hp i (by rw [← hN]; exact h2)
      have hj : ev (shN sh).reverse (plR (shN sh).reverse i) < D.length := by rw [lD, hN]; exact e2
      rw [show D.getD (ev (shN sh).reverse (plR (shN sh).reverse i)) 0 = D[ev (shN sh).reverse (plR (shN sh).reverse i)] by simp [List.getD, hj]]
      simp only [hD, List.getElem_map, List.getElem_range]
      rw [e1]
      simp [List.getD, h2]


/-- take of all rows -/
theorem take_all {sh da : List Int} (ok : okB sh da = true) (h0 : ¬ sh.length = 0) : takeM [] [sh.getD 0 0] sh da = (0, sh, da) := by
  obtain ⟨n, s, en, es, n1, s1, hl, hb⟩ := rows_size ok h0
  have ax : axesS sh da = sh := by unfold axesS; rw [if_neg h0]
  unfold takeM
  rw [if_pos (show ([] : List Int).length = 0 from rfl), ax]
  have e0 : ([sh.getD 0 0] : List Int).getD 0 0 = (n : Int) := en
  have e1 : max ((n : Int)) (-((n : Int))) = n := by omega
  have e2 : gone (n : Int) (n : Int) = n := by unfold gone; rw [e1]; omega
  rw [e0, en, e1, e2, es]
  have hs : (n : Int) :: sh.tail = sh := by
    cases sh with
    | nil => exact absurd rfl h0
    | cons x tl =>
      have : x = n := en
      rw [this]
      rfl
  rw [hs, if_pos (ok_len ok).2]
  simp only [Int.toNat_natCast]
  unfold takeD
  rw [if_neg (by omega), Nat.sub_self, Nat.zero_mul, List.replicate_zero, List.append_nil, ← hl, List.take_length]

theorem ok_vec_part {da db : List Int} {m n : Nat} (ok : okB [(m : Int)] da = true) (hl : db.length = n) (hn : n ≤ m) (hv : ∀ x ∈ db, x ∈ da) : okB [(n : Int)] db = true := by
  have hm : m ≤ 1000 := by
    have := (ok_len ok).2
    simp only [fitsB, baseB, Bool.and_eq_true, decide_eq_true_eq, List.all_cons] at this
    have := inR_bd this.1.2.1
    omega
  exact ok_vec (by omega) hl (fun x hx => ok_cell ok (hv x hx))

/-- the parts of a list -/
theorem parts_cat {da : List Int} {m i : Nat} (ok : okB [(m : Int)] da = true) (hm : da.length = m) (hi : i ≤ m) :
    takeM [] [(i : Int)] [(m : Int)] da = (0, [(i : Int)], da.take i) ∧ dropM [] [(i : Int)] [(m : Int)] da = (0, [((m - i : Nat) : Int)], da.drop i) ∧
    catM [(i : Int)] (da.take i) [((m - i : Nat) : Int)] (da.drop i) = (0, [(m : Int)], da) ∧ okB [(i : Int)] (da.take i) = true ∧ okB [((m - i : Nat) : Int)] (da.drop i) = true := by
  have o1 : okB [(i : Int)] (da.take i) = true := ok_vec_part ok (by rw [List.length_take]; omega) hi (fun x hx => List.mem_of_mem_take hx)
  have o2 : okB [((m - i : Nat) : Int)] (da.drop i) = true := ok_vec_part ok (by rw [List.length_drop]; omega) (by omega) (fun x hx => List.mem_of_mem_drop hx)
  have ax : ∀ (x : Int) (l : List Int), axesS [x] l = [x] := fun x l => by unfold axesS; rw [if_neg (by simp)]
  have g1 : max ((i : Int)) (-((i : Int))) = i := by omega
  have g2 : gone (i : Int) (m : Int) = i := by unfold gone; rw [g1]; omega
  have p0 : (prodP ([] : List Int)).toNat = 1 := rfl
  refine ⟨?_, ?_, ?_, o1, o2⟩
  · unfold takeM
    rw [if_pos (show ([] : List Int).length = 0 from rfl), ax]
    simp only [List.getD_cons_zero, List.tail_cons, g1, g2, p0, Int.toNat_natCast]
    rw [if_pos (ok_len o1).2]
    unfold takeD
    rw [if_neg (by omega), Nat.sub_self, Nat.zero_mul, List.replicate_zero, List.append_nil, Nat.mul_one]
  · unfold dropM
    rw [if_pos (show ([] : List Int).length = 0 from rfl), ax]
    have d1 : dropF (i : Int) (m : Int) = i := by unfold dropF; rw [if_neg (by omega), g2]
    have d2 : dropE (i : Int) (m : Int) = m := by unfold dropE; rw [if_neg (by omega)]
    simp only [List.getD_cons_zero, List.tail_cons, g2, p0, d1, d2, Int.toNat_natCast, Nat.mul_one]
    have e : (m : Int) - (i : Int) = ((m - i : Nat) : Int) := by omega
    rw [e, List.take_of_length_le (by rw [List.length_drop]; omega)]
  · unfold catM
    have as1 : ∀ (x : Int), asR [x] 1 = [x] := fun x => by unfold asR; rw [if_neg (by simp)]
    simp only [ax, List.length_cons, List.length_nil, Nat.zero_add, as1, List.tail_cons, List.getD_cons_zero, if_true]
    have e : (i : Int) + ((m - i : Nat) : Int) = (m : Int) := by omega
    rw [e, if_pos (ok_len ok).2, List.take_append_drop]

/-- ascending, and equal ones in their order -/
theorem ins_lt {k : Int → Int} {x : Int} {l : List Int} (h : l.Pairwise fun a b => k a < k b ∨ (k a = k b ∧ a < b)) (hx : ∀ a ∈ l, a < x) : (ins k x l).Pairwise fun a b => k a < k b ∨ (k a = k b ∧ a < b) := by
  induction l with
  | nil => simp [ins]
  | cons y l ih =>
    have h' := List.pairwise_cons.1 h
    rw [ins]
    split
    · rename_i hk
      refine List.pairwise_cons.2 ⟨fun z hz => ?_, h⟩
      rcases List.mem_cons.1 hz with rfl | hz
      · exact .inl hk
      · rcases h'.1 z hz with h1 | h1
        · exact .inl (by omega)
        · exact .inl (by omega)
    · rename_i hk
      refine List.pairwise_cons.2 ⟨fun z hz => ?_, ih h'.2 (fun a ha => hx a (by simp [ha]))⟩
      rcases mem_ins hz with rfl | hz
      · have := hx y (by simp)
        by_cases he : k y = k z
        · exact .inr ⟨he, this⟩
        · exact .inl (by omega)
      · exact h'.1 z hz
theorem grd_lt (k : Int → Int) (n : Nat) : (grd k 0 n).Pairwise fun a b => k a < k b ∨ (k a = k b ∧ a < b) := by
  induction n with
  | zero => exact List.Pairwise.nil
  | succ n ih =>
    rw [grd]
    refine ins_lt ih (fun a ha => ?_)
    have := mem_grd ha
    omega

/-- from by grade -/
theorem grade_from {da : List Int} {m : Nat} (ok : okB [(m : Int)] da = true) (hm : da.length = m) :
    ∃ O U, gradeM [(m : Int)] da = (0, [(m : Int)], O) ∧ okB [(m : Int)] O = true ∧ fromM [(m : Int)] O [(m : Int)] da = (0, [(m : Int)], U) ∧ O.length = m ∧ U.length = m ∧
      ∀ i, i + 1 < m → U.getD i 0 < U.getD (i + 1) 0 ∨ (U.getD i 0 = U.getD (i + 1) 0 ∧ O.getD i 0 < O.getD (i + 1) 0) := by
  have hm1 : m ≤ 1000 := by
    have := (ok_len ok).2
    simp only [fitsB, baseB, Bool.and_eq_true, decide_eq_true_eq, List.all_cons] at this
    have := inR_bd this.1.2.1
    omega
  obtain ⟨O, hO⟩ : ∃ O, O = grd (key da) 0 m := ⟨_, rfl⟩
  have lO : O.length = m := by rw [hO, len_grd]
  have bO : ∀ x ∈ O, 0 ≤ x ∧ x < m := fun x hx => by rw [hO] at hx; have := mem_grd hx; omega
  have okO : okB [(m : Int)] O = true := ok_vec hm1 lO (fun x hx => by have := bO x hx; omega)
  have hU : flat da 1 O = O.map (key da) := by
    unfold flat
    clear lO okO hO
    induction O with
    | nil => rfl
    | cons x l ih =>
      rw [List.flatMap_cons, ih (fun y hy => bO y (by simp [hy])), List.map_cons]
      have hx := bO x (by simp)
      have hlt : x.toNat < da.length := by omega
      have : rowAt da 1 x.toNat = [key da x] := by
        unfold rowAt key
        rw [Nat.mul_one, List.drop_eq_getElem_cons hlt, List.take_succ_cons, List.take_zero]
        simp [List.getD, hlt]
      rw [this]
      rfl
  refine ⟨O, O.map (key da), ?_, okO, ?_, lO, by rw [List.length_map, lO], fun i hi => ?_⟩
  · unfold gradeM
    rw [if_pos (by simp), hm, hO]
  · unfold fromM
    have f : fitsB ([(m : Int)] ++ ([(m : Int)]).tail) = true := by
      have := (ok_len ok).2
      simpa using this
    rw [if_neg (by simp), if_pos f]
    have al : O.all (inB (([(m : Int)]).getD 0 0)) = true := by
      rw [List.all_eq_true]
      intro x hx
      unfold inB
      rw [decide_eq_true_eq]
      exact bO x hx
    rw [if_pos al]
    have p1 : (prodC ([(m : Int)]).tail).toNat = 1 := rfl
    rw [p1, hU]
    rfl
  · have hp := grd_lt (key da) m
    rw [← hO] at hp
    have h1 : i < O.length := by omega
    have h2 : i + 1 < O.length := by omega
    have := List.pairwise_iff_getElem.1 hp i (i + 1) h1 h2 (by omega)
    simpa [List.getD, h1, h2] using this

end Go.Proofs.YtaopohihipihdaaGreatDoor.Pl
