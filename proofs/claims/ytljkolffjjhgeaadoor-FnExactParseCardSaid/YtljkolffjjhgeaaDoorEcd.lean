import Derived.Test.YtljkolffjjhgeaaDoorGrp
namespace Go.Proofs.YtljkolffjjhgeaaDoor
set_option linter.unusedVariables false
set_option maxRecDepth 100000
namespace Pl
/-- a statement as it stands -/
inductive S where
  | val (e : E)
  | asg (nm : List UInt8) (e : E)
  | fn (nm : List UInt8) (gs : List (E × E)) (e : E)
def seps : List T → List T
  | .sep :: r => seps r
  | r => r
/-- impl: the body behind the open brace -/
def pbody (n : Nat) : Nat → List T → Option (List (E × E) × E × List T)
  | 0, _ => none
  | k + 1, ts => match pexpr n ts with
    | none => none
    | some (x, .col :: r) => match pexpr n r with
      | some (y, .sep :: r2) => match pbody n k (seps r2) with
        | some (gs, e, r3) => some ((x, y) :: gs, e, r3)
        | none => none
      | _ => none
    | some (x, r) => match seps r with
      | .rb :: r2 => some ([], x, r2)
      | _ => none
def pstmt (n k : Nat) : List T → Option (S × List T)
  | .arr nm :: .asg :: r => match pexpr n r with
    | some (e, r) => some (.asg nm e, r)
    | none => none
  | .fn nm :: .asg :: .lb :: r => if nm = selfW then none else match pbody n k (seps r) with
    | some (gs, e, r) => some (.fn nm gs e, r)
    | none => none
  | _ :: .asg :: _ => none
  | ts => match pexpr n ts with
    | some (e, r) => some (.val e, r)
    | none => none
def pprog (n : Nat) : Nat → List T → Option (List S)
  | _, [] => some []
  | 0, _ => none
  | k + 1, ts => match pstmt n n ts with
    | none => none
    | some (s, []) => some [s]
    | some (s, .sep :: r) => match pprog n k (seps r) with
      | some l => some (s :: l)
      | none => none
    | some _ => none
/-- spec: pieces -/
def br : T → Int
  | .lb => 1
  | .rb => -1
  | _ => 0
def isSep : T → Bool
  | .sep => true
  | _ => false
def rsp : Int → List T → List T → List (List T)
  | _, acc, [] => if acc = [] then [] else [acc.reverse]
  | o, acc, t :: r =>
    if o + br t ≤ 0 ∧ isSep t = true then (if acc = [] then rsp (o + br t) [] r else acc.reverse :: rsp (o + br t) [] r)
    else rsp (o + br t) (t :: acc) r
def cutc : List T → Option (List T × List T)
  | [] => none
  | .col :: r => some ([], r)
  | t :: r => match cutc r with
    | some (a, b) => some (t :: a, b)
    | none => none
def rbd (n : Nat) : List (List T) → Option (List (E × E) × E)
  | [] => none
  | [p] => match cutc p with
    | some _ => none
    | none => match rexpr n p with
      | some e => some ([], e)
      | none => none
  | p :: ps => match cutc p with
    | none => none
    | some (a, b) => match rexpr n a, rexpr n b, rbd n ps with
      | some x, some y, some (gs, e) => some ((x, y) :: gs, e)
      | _, _, _ => none
def rstmt (n : Nat) : List T → Option S
  | .arr nm :: .asg :: r => match rexpr n r with
    | some e => some (.asg nm e)
    | none => none
  | .fn nm :: .asg :: r => if nm = selfW then none else match r with
    | .lb :: r2 => match r2.reverse with
      | .rb :: r3 => match rbd n (rsp 0 [] r3.reverse) with
        | some (gs, e) => some (.fn nm gs e)
        | none => none
      | _ => none
    | _ => none
  | ts => match rexpr n ts with
    | some e => some (.val e)
    | none => none
def rall (n : Nat) : List (List T) → Option (List S)
  | [] => some []
  | p :: ps => match rstmt n p, rall n ps with
    | some s, some l => some (s :: l)
    | _, _ => none
/-- what an expr is made of -/
def ein : T → Bool
  | .lb => false
  | .rb => false
  | .col => false
  | .asg => false
  | .sep => false
  | _ => true
theorem F.ein {f : F} : ∀ t ∈ f.toks, Pl.ein t = true := by cases f <;> simp [F.toks, Pl.ein]
mutual
theorem E.ein : ∀ (e : E), ∀ t ∈ e.toks, Pl.ein t = true
  | .opd o => O.ein o
  | .one f e => fun t h => by
    rw [E.toks, List.mem_append] at h
    rcases h with h | h
    · exact F.ein t h
    · exact E.ein e t h
  | .two o f e => fun t h => by
    rw [E.toks, List.mem_append, List.mem_append] at h
    rcases h with h | h | h
    · exact O.ein o t h
    · exact F.ein t h
    · exact E.ein e t h
theorem O.ein : ∀ (o : O), ∀ t ∈ o.toks, Pl.ein t = true
  | .nums v vs => fun t h => by
    simp only [O.toks, List.mem_cons, List.mem_map] at h
    rcases h with rfl | ⟨x, _, rfl⟩ <;> rfl
  | .name nm => fun t h => by simp [O.toks] at h; subst h; rfl
  | .br e => fun t h => by
    simp only [O.toks, List.mem_cons, List.mem_append, List.not_mem_nil, or_false] at h
    rcases h with rfl | h | rfl
    · rfl
    · exact E.ein e t h
    · rfl
end
theorem rsp_ein : ∀ (p : List T) (acc r : List T), (∀ t ∈ p, ein t = true) → rsp 0 acc (p ++ r) = rsp 0 (p.reverse ++ acc) r
  | [], acc, r, h => rfl
  | t :: p, acc, r, h => by
    have h1 := h t (by simp)
    rw [List.cons_append, rsp, if_neg (by cases t <;> simp [isSep, ein] at h1 ⊢), show (0 : Int) + br t = 0 by cases t <;> first | rfl | simp [ein] at h1, rsp_ein p _ r (fun x hx => h x (by simp [hx]))]
    simp
theorem rsp_col (acc r : List T) : rsp 0 acc (.col :: r) = rsp 0 (.col :: acc) r := by
  rw [rsp, if_neg (by simp [isSep])]; rfl
theorem rsp_sep (acc r : List T) (h : acc ≠ []) : rsp 0 acc (.sep :: r) = acc.reverse :: rsp 0 [] r := by
  rw [rsp, if_pos ⟨by decide, rfl⟩, if_neg h]; rfl
theorem rsp_sep0 (r : List T) : rsp 0 [] (.sep :: r) = rsp 0 [] r := by
  rw [rsp, if_pos ⟨by decide, rfl⟩, if_pos rfl]; rfl
theorem rsp_seps : ∀ r : List T, rsp 0 [] r = rsp 0 [] (seps r)
  | [] => rfl
  | t :: r => by
    cases t <;> first | rfl | skip
    rw [rsp_sep0, rsp_seps r]
    rfl
/-- the first piece -/
theorem rsp_first : ∀ (ts : List T) (o : Int) (acc : List T), acc ≠ [] → ∃ q r ps, rsp o acc ts = (acc.reverse ++ q) :: ps ∧ ts = q ++ r ∧ (r = [] ∧ ps = [] ∨ ∃ r' o', r = .sep :: r' ∧ ps = rsp o' [] r')
  | [], o, acc, h => ⟨[], [], [], by rw [rsp, if_neg h]; simp, rfl, .inl ⟨rfl, rfl⟩⟩
  | t :: ts, o, acc, h => by
    rw [rsp]
    by_cases hs : o + br t ≤ 0 ∧ isSep t = true
    · rw [if_pos hs, if_neg h]
      have : t = .sep := by cases t <;> first | rfl | simp [isSep] at hs
      exact ⟨[], t :: ts, rsp (o + br t) [] ts, by rw [List.append_nil], rfl, .inr ⟨ts, _, by rw [this], rfl⟩⟩
    · rw [if_neg hs]
      obtain ⟨q, r, ps, h1, h2, h3⟩ := rsp_first ts (o + br t) (t :: acc) (by simp)
      exact ⟨t :: q, r, ps, by rw [h1]; simp, by rw [h2]; rfl, h3⟩
theorem rsp_nil : ∀ (r : List T), rsp 0 [] r = [] → seps r = []
  | [], _ => rfl
  | t :: r, h => by
    by_cases ht : t = .sep
    · subst ht
      rw [rsp_sep0] at h
      exact rsp_nil r h
    · exfalso
      rw [rsp, if_neg (by rintro ⟨_, h⟩; cases t <;> first | exact ht rfl | simp [isSep] at h)] at h
      obtain ⟨q, r', ps, h1, _⟩ := rsp_first r (0 + br t) [t] (by simp)
      rw [h1] at h
      cases h
theorem seps_sep : ∀ (r : List T), seps r = [] ∨ ∃ t r', seps r = t :: r' ∧ isSep t = false
  | [] => .inl rfl
  | t :: r => by
    cases t <;> first | exact .inr ⟨_, _, rfl, rfl⟩ | skip
    exact seps_sep r
theorem seps_app_rb : ∀ (r R : List T), seps r = [] → seps (r ++ .rb :: R) = .rb :: R
  | [], R, _ => rfl
  | t :: r, R, h => by
    cases t <;> first | (simp [seps] at h; done) | skip
    exact seps_app_rb r R h
theorem seps_pre : ∀ (r : List T), ∃ p, r = p ++ seps r ∧ ∀ t ∈ p, t = .sep
  | [] => ⟨[], rfl, by simp⟩
  | t :: r => by
    cases t <;> first | exact ⟨[], rfl, by simp⟩ | skip
    obtain ⟨p, h1, h2⟩ := seps_pre r
    exact ⟨.sep :: p, by rw [seps, List.cons_append, ← h1], by intro t ht; rcases List.mem_cons.1 ht with h | h; exact h; exact h2 t h⟩
theorem seps_of_pre : ∀ (p r : List T), (∀ t ∈ p, t = .sep) → seps (p ++ r) = seps r
  | [], r, _ => rfl
  | t :: p, r, h => by
    obtain rfl := h t (by simp)
    rw [List.cons_append, seps]
    exact seps_of_pre p r (fun t ht => h t (by simp [ht]))
theorem cutc_ein : ∀ (a b : List T), (∀ t ∈ a, ein t = true) → cutc (a ++ .col :: b) = some (a, b)
  | [], b, _ => rfl
  | t :: a, b, h => by
    have h1 := h t (by simp)
    have h2 := cutc_ein a b (fun x hx => h x (by simp [hx]))
    cases t <;> first | (simp [ein] at h1; done) | (rw [List.cons_append, cutc, h2]; rintro ⟨⟩)
theorem cutc_none : ∀ (a : List T), (∀ t ∈ a, ein t = true) → cutc a = none
  | [], _ => rfl
  | t :: a, h => by
    have h1 := h t (by simp)
    have h2 := cutc_none a (fun x hx => h x (by simp [hx]))
    cases t <;> first | (simp [ein] at h1; done) | (rw [cutc, h2]; rintro ⟨⟩)
theorem cutc_some : ∀ (p a b : List T), cutc p = some (a, b) → p = a ++ .col :: b
  | [], a, b, h => by simp [cutc] at h
  | t :: p, a, b, h => by
    have step (h : (match cutc p with | some (a, b) => some (t :: a, b) | none => none) = some (a, b)) : t :: p = a ++ .col :: b := by
      split at h
      · rename_i a' b' h1
        cases h
        rw [cutc_some p a' b h1]; rfl
      · cases h
    cases t <;> first | exact step h | (simp only [cutc, Option.some.injEq, Prod.mk.injEq] at h; obtain ⟨rfl, rfl⟩ := h; rfl)
theorem E.ne {e : E} (h : e.wf) : e.toks ≠ [] := by
  have := E.beg h []
  intro h0
  rw [h0] at this
  simp [Pl.beg] at this
theorem ein_stop_col (r : List T) : stop (.col :: r) = true := rfl
theorem seps_stop {R2 R : List T} (h : R2 = [] ∨ ∃ r, R2 = .sep :: r) : stop (R2 ++ .rb :: R) = true := by rcases h with rfl | ⟨r, rfl⟩ <;> rfl
/-- a body, from the right to the left way -/
theorem body_rl (n m : Nat) : ∀ (k : Nat) (B R : List T) (gs : List (E × E)) (e : E), B.length < k → 2 * B.length ≤ m → rbd n (rsp 0 [] B) = some (gs, e) → pbody m k (seps (B ++ .rb :: R)) = some (gs, e, R)
  | 0, B, R, gs, e, h, _, _ => absurd h (by omega)
  | k + 1, B, R, gs, e, hk, hm, h => by
    rw [rsp_seps] at h
    obtain ⟨p, hp, hs⟩ := seps_pre B
    have hl : (seps B).length ≤ B.length := by have := congrArg List.length hp; simp at this; omega
    rw [show B ++ .rb :: R = p ++ (seps B ++ .rb :: R) by rw [← List.append_assoc, ← hp], seps_of_pre p _ hs]
    rcases seps_sep B with h0 | ⟨t, r, h0, ht⟩
    · rw [h0] at h
      simp [rsp, rbd] at h
    · rw [h0] at h hl ⊢
      have e0 : seps (t :: r ++ .rb :: R) = t :: r ++ .rb :: R := by cases t <;> first | rfl | simp [isSep] at ht
      rw [e0]
      have h' := h
      rw [rsp, if_neg (by rw [ht]; simp)] at h'
      obtain ⟨q, R2, ps, h1, h2, h3⟩ := rsp_first r (0 + br t) [t] (by simp)
      rw [h1] at h'
      simp only [List.reverse_cons, List.reverse_nil, List.nil_append, List.singleton_append] at h'
      have e1 : t :: r = t :: q ++ R2 := by rw [h2]; rfl
      have hlen : (t :: q).length + R2.length = (t :: r).length := by rw [e1]; simp; omega
      have hlen2 : (t :: q).length = q.length + 1 := rfl
      rw [e1, List.append_assoc]
      cases ps with
      | nil =>
        rw [rbd] at h'
        split at h'
        · cases h'
        · split at h'
          · rename_i e' he
            cases h'
            obtain ⟨g1, g2⟩ := (rsound n).1 _ _ he
            have hR2 : seps R2 = [] := by
              rcases h3 with ⟨rfl, _⟩ | ⟨r', o', rfl, hp2⟩
              · rfl
              · have h5 := h1
                rw [← h2] at *
                have : rsp 0 [] (t :: r) = [t :: q] := by rw [rsp, if_neg (by rw [ht]; simp), h1]; rfl
                rw [e1, g1, rsp_ein _ _ _ (E.ein e), List.append_nil, rsp_sep _ _ (by have := E.ne g2; simpa using this)] at this
                simp at this
                exact rsp_nil r' this
            have hst : stop (R2 ++ .rb :: R) = true := seps_stop (by rcases h3 with ⟨h, _⟩ | ⟨r', _, h, _⟩; exact .inl h; exact .inr ⟨r', h⟩)
            have hpx := right_left he hst (m := m) (by simp at hlen hl ⊢; omega)
            rw [pbody, hpx]
            have hsr := seps_app_rb R2 R hR2
            rcases h3 with ⟨rfl, _⟩ | ⟨r', _, rfl, _⟩
            · rfl
            · simp only [List.cons_append] at hsr ⊢
              rw [hsr]
          · cases h'
      | cons p2 ps2 =>
        rw [rbd] at h'
        · split at h'
          · cases h'
          · rename_i a b hc
            split at h'
            · rename_i x y gs' e' hx hy hr
              cases h'
              have e2 := cutc_some _ _ _ hc
              rcases h3 with ⟨_, h4⟩ | ⟨r', o', rfl, hp2⟩
              · cases h4
              · obtain ⟨g1, g2⟩ := (rsound n).1 _ _ hx
                obtain ⟨g3, g4⟩ := (rsound n).1 _ _ hy
                have hlab : a.length + b.length + 1 = (t :: q).length := by rw [e2]; simp; omega
                have hps : rsp 0 [] r' = p2 :: ps2 := by
                  have : rsp 0 [] (t :: r) = (t :: q) :: p2 :: ps2 := by rw [rsp, if_neg (by rw [ht]; simp), h1]; rfl
                  rw [e1, e2, g1, g3, List.append_assoc, rsp_ein _ _ _ (E.ein x), List.append_nil, List.cons_append, rsp_col, rsp_ein _ _ _ (E.ein y), rsp_sep _ _ (by simp)] at this
                  simp at this
                  exact this
                rw [e2, List.append_assoc, List.cons_append]
                have hpx := right_left hx (ein_stop_col (b ++ ((.sep :: r') ++ .rb :: R))) (m := m) (by simp at hlen hl ⊢; omega)
                have hpy := right_left hy (r := (.sep :: r') ++ .rb :: R) rfl (m := m) (by simp at hlen hl ⊢; omega)
                rw [← hps] at hr
                have ih := body_rl n m k r' R gs' e (by simp at hlen hl; omega) (by simp at hlen hl; omega) hr
                rw [pbody, hpx]
                simp only
                rw [hpy]
                simp only [List.cons_append]
                rw [ih]
            · cases h'
        · intro hh; cases hh
/-- a body, from the left to the right way -/
theorem body_lr (n m : Nat) : ∀ (k : Nat) (ts R : List T) (gs : List (E × E)) (e : E), 2 * ts.length + 1 ≤ n → pbody m k ts = some (gs, e, R) → ∃ B, ts = B ++ .rb :: R ∧ rbd n (rsp 0 [] B) = some (gs, e) ∧ ∀ t ∈ B, br t = 0
  | 0, ts, R, gs, e, _, h => by simp [pbody] at h
  | k + 1, ts, R, gs, e, hn, h => by
    rw [pbody] at h
    have hein (e : E) : ∀ t ∈ e.toks, br t = 0 := fun t ht => by have := E.ein e t ht; cases t <;> first | rfl | simp [ein] at this
    split at h
    · cases h
    · rename_i x r hx
      obtain ⟨g1, g2, g3⟩ := left_right hx hn
      split at h
      · rename_i y r2 hy
        have hln : 2 * r.length + 1 ≤ n := by have := congrArg List.length g1; simp at this; omega
        obtain ⟨g4, g5, g6⟩ := left_right hy hln
        split at h
        · rename_i gs' e' r3 hb
          cases h
          obtain ⟨p, hp, hs⟩ := seps_pre r2
          have hl2 : (seps r2).length ≤ r2.length := by have := congrArg List.length hp; simp at this; omega
          obtain ⟨B', i1, i2, i3⟩ := body_lr n m k (seps r2) R gs' e (by have := congrArg List.length g4; simp at this; omega) hb
          refine ⟨x.toks ++ .col :: (y.toks ++ .sep :: (p ++ B')), ?_, ?_, ?_⟩
          · rw [g1, g4]
            simp only [List.append_assoc, List.cons_append]
            rw [← i1, ← hp]
          · rw [rsp_ein _ _ _ (E.ein x), List.append_nil, rsp_col, rsp_ein _ _ _ (E.ein y), rsp_sep _ _ (by simp)]
            have e1 : rsp 0 [] (p ++ B') = rsp 0 [] B' := by rw [rsp_seps, seps_of_pre p _ hs, ← rsp_seps]
            rw [e1]
            simp only [List.reverse_append, List.reverse_cons, List.reverse_reverse, List.append_assoc, List.singleton_append]
            cases hq : rsp 0 [] B' with
            | nil => rw [hq] at i2; simp [rbd] at i2
            | cons p1 ps1 =>
              rw [hq] at i2
              rw [rbd, cutc_ein _ _ (E.ein x)]
              · simp only
                rw [g3, g6, i2]
              · intro hh; cases hh
          · intro t ht
            simp only [List.mem_append, List.mem_cons] at ht
            rcases ht with ht | rfl | ht | rfl | ht | ht
            · exact hein x t ht
            · rfl
            · exact hein y t ht
            · rfl
            · rw [hs t ht]; rfl
            · exact i3 t ht
        · cases h
      · cases h
    · rename_i x r _ hx
      obtain ⟨g1, g2, g3⟩ := left_right hx hn
      split at h
      · rename_i r2 hr
        simp only [Option.some.injEq, Prod.mk.injEq] at h
        obtain ⟨rfl, rfl, rfl⟩ := h
        obtain ⟨p, hp, hs⟩ := seps_pre r
        refine ⟨x.toks ++ p, ?_, ?_, ?_⟩
        · rw [g1, List.append_assoc, ← hr, ← hp]
        · have hpn : rsp 0 x.toks.reverse p = [x.toks] := by
            cases p with
            | nil => rw [rsp, if_neg (by have := E.ne g2; simpa using this), List.reverse_reverse]
            | cons t p =>
              obtain rfl := hs t (by simp)
              rw [rsp_sep _ _ (by have := E.ne g2; simpa using this), List.reverse_reverse]
              have := seps_of_pre p [] (fun t ht => hs t (by simp [ht]))
              rw [List.append_nil] at this
              rw [rsp_seps, this]
              rfl
          rw [rsp_ein _ _ _ (E.ein x), List.append_nil, hpn, rbd, cutc_none _ (E.ein x)]
          simp only
          rw [g3]
        · intro t ht
          rw [List.mem_append] at ht
          rcases ht with ht | ht
          · exact hein x t ht
          · rw [hs t ht]; rfl
      · cases h
end Pl
namespace Pl
def noAsg (ts : List T) : Prop := ∀ t r, ts ≠ t :: .asg :: r
theorem pstmt_default {n k : Nat} {ts : List T} (h : noAsg ts) : pstmt n k ts = match pexpr n ts with | some (e, r) => some (.val e, r) | none => none := by
  unfold pstmt
  split
  · exact absurd rfl (h _ _)
  · exact absurd rfl (h _ _)
  · exact absurd rfl (h _ _)
  · rfl
theorem rstmt_default {n : Nat} {ts : List T} (h : noAsg ts) : rstmt n ts = match rexpr n ts with | some e => some (.val e) | none => none := by
  unfold rstmt
  split
  · exact absurd rfl (h _ _)
  · exact absurd rfl (h _ _)
  · rfl
theorem E.noAsg (e : E) {R : List T} (hR : R = [] ∨ ∃ r, R = .sep :: r) (he : e.toks ≠ []) : noAsg (e.toks ++ R) := by
  intro t r h
  cases ht : e.toks with
  | nil => exact he ht
  | cons a l =>
    rw [ht] at h
    cases l with
    | nil =>
      rcases hR with rfl | ⟨r', rfl⟩
      · simp at h
      · simp at h
    | cons b l =>
      simp at h
      have := E.ein e b (by rw [ht]; simp)
      rw [h.2.1] at this
      simp [Pl.ein] at this
theorem rsp_push (o : Int) (acc r : List T) (t : T) (h : br t = 0) (hs : isSep t = false) : rsp o acc (t :: r) = rsp o (t :: acc) r := by
  rw [rsp, if_neg (by rw [hs]; simp), h, Int.add_zero]
theorem rsp_in : ∀ (B acc r : List T), (∀ t ∈ B, br t = 0) → rsp 1 acc (B ++ r) = rsp 1 (B.reverse ++ acc) r
  | [], acc, r, _ => rfl
  | t :: B, acc, r, h => by
    have h1 := h t (by simp)
    rw [List.cons_append, rsp, if_neg (by rw [h1]; simp), h1, Int.add_zero, rsp_in B _ r (fun x hx => h x (by simp [hx]))]
    simp
theorem stop_sep {R : List T} (hR : R = [] ∨ ∃ r, R = .sep :: r) : stop R = true := by rcases hR with rfl | ⟨r, rfl⟩ <;> rfl
theorem stmt_rl {n m k : Nat} {P R : List T} {s : S} (h : rstmt n P = some s) (hR : R = [] ∨ ∃ r, R = .sep :: r) (hm : 2 * P.length ≤ m) (hk : P.length < k) : pstmt m k (P ++ R) = some (s, R) := by
  unfold rstmt at h
  split at h
  · rename_i nm r
    split at h
    · rename_i e he
      cases h
      have := right_left he (stop_sep hR) (m := m) (by simp at hm; omega)
      simp only [List.cons_append, pstmt]
      rw [this]
    · cases h
  · rename_i nm r
    split at h
    · cases h
    · rename_i hself
      split at h
      · rename_i r2
        split at h
        · rename_i r3 hr3
          split at h
          · rename_i gs e hb
            cases h
            have e1 : r2 = r3.reverse ++ [.rb] := by rw [← List.reverse_reverse r2, hr3]; simp
            have hlen : r2.length = r3.length + 1 := by rw [e1]; simp
            have := body_rl n m k r3.reverse R gs e (by simp at hk ⊢; omega) (by simp at hm ⊢; omega) hb
            simp only [List.cons_append, pstmt]
            rw [if_neg hself, e1, List.append_assoc, List.singleton_append, this]
          · cases h
        · cases h
      · cases h
  · rename_i hd1 hd2
    split at h
    · rename_i e he
      cases h
      obtain ⟨rfl, hw⟩ := (rsound n).1 _ _ he
      rw [pstmt_default (E.noAsg e hR (E.ne hw)), right_left he (stop_sep hR) (m := m) hm]
    · cases h
theorem stmt_lr {n m k : Nat} {ts R : List T} {s : S} (h : pstmt m k ts = some (s, R)) (hn : 2 * ts.length + 1 ≤ n) : ∃ P, ts = P ++ R ∧ P ≠ [] ∧ rstmt n P = some s ∧ ∀ acc r, rsp 0 acc (P ++ r) = rsp 0 (P.reverse ++ acc) r := by
  unfold pstmt at h
  split at h
  · rename_i nm r
    split at h
    · rename_i e r' he
      cases h
      obtain ⟨g1, g2, g3⟩ := left_right he (n := n) (by simp at hn; omega)
      refine ⟨.arr nm :: .asg :: e.toks, by rw [g1]; rfl, by simp, ?_, fun acc r => ?_⟩
      · simp only [rstmt]
        rw [g3]
      · rw [List.cons_append, List.cons_append, rsp_push _ _ _ _ rfl rfl, rsp_push _ _ _ _ rfl rfl, rsp_ein _ _ _ (E.ein e)]
        simp
    · cases h
  · rename_i nm r
    split at h
    · cases h
    · rename_i hself
      split at h
      · rename_i gs e r' hb
        cases h
        obtain ⟨p, hp, hs⟩ := seps_pre r
        have hl : (seps r).length ≤ r.length := by have := congrArg List.length hp; simp at this; omega
        obtain ⟨B, b1, b2, b3⟩ := body_lr n m k (seps r) R gs e (by simp at hn; omega) hb
        refine ⟨.fn nm :: .asg :: .lb :: (p ++ B ++ [.rb]), ?_, by simp, ?_, fun acc r => ?_⟩
        · rw [hp, b1]; simp
        · simp only [rstmt]
          rw [if_neg hself]
          have e1 : (p ++ B ++ [T.rb]).reverse = .rb :: (p ++ B).reverse := by simp
          rw [e1]
          simp only [List.reverse_reverse]
          have e2 : rsp 0 [] (p ++ B) = rsp 0 [] B := by rw [rsp_seps, seps_of_pre p _ hs, ← rsp_seps]
          rw [e2, b2]
        · have hbr : ∀ t ∈ p ++ B, br t = 0 := fun t ht => by
            rcases List.mem_append.1 ht with h | h
            · rw [hs t h]; rfl
            · exact b3 t h
          have e3 : ∀ acc r, rsp 0 acc (.lb :: r) = rsp 1 (.lb :: acc) r := fun acc r => by rw [rsp, if_neg (by simp [isSep])]; rfl
          have e4 : ∀ acc r, rsp 1 acc (.rb :: r) = rsp 0 (.rb :: acc) r := fun acc r => by rw [rsp, if_neg (by simp [isSep])]; rfl
          rw [List.cons_append, List.cons_append, List.cons_append, rsp_push _ _ _ _ rfl rfl, rsp_push _ _ _ _ rfl rfl, e3, List.append_assoc, rsp_in _ _ _ hbr, List.singleton_append, e4]
          simp
      · cases h
  · cases h
  · rename_i hd1 hd2 hd3
    split at h
    · rename_i e r he
      cases h
      obtain ⟨g1, g2, g3⟩ := left_right he hn
      refine ⟨e.toks, g1, E.ne g2, ?_, fun acc r => rsp_ein _ _ _ (E.ein e)⟩
      have := E.noAsg e (.inl rfl) (E.ne g2)
      rw [List.append_nil] at this
      rw [rstmt_default this, g3]
    · cases h
theorem seps_idem (t : T) (r : List T) (h : isSep t = false) : seps (t :: r) = t :: r := by cases t <;> first | rfl | simp [isSep] at h
theorem pprog_none {n k : Nat} {t : T} {r : List T} (h : pstmt n n (t :: r) = none) : pprog n (k + 1) (t :: r) = none := by simp [pprog, h]
theorem pprog_end {n k : Nat} {t : T} {r : List T} {s : S} (h : pstmt n n (t :: r) = some (s, [])) : pprog n (k + 1) (t :: r) = some [s] := by simp [pprog, h]
theorem pprog_sep {n k : Nat} {t : T} {r r' : List T} {s : S} (h : pstmt n n (t :: r) = some (s, .sep :: r')) : pprog n (k + 1) (t :: r) = match pprog n k (seps r') with | some l => some (s :: l) | none => none := by simp [pprog, h] <;> (cases pprog n k (seps r') <;> rfl)
theorem pprog_bad {n k : Nat} {t t' : T} {r r' : List T} {s : S} (h : pstmt n n (t :: r) = some (s, t' :: r')) (ht : t' ≠ .sep) : pprog n (k + 1) (t :: r) = none := by
  cases t' <;> first | exact absurd rfl ht | simp [pprog, h]
/-- the two ways agree on programs -/
theorem prog_eq (n : Nat) : ∀ (k : Nat) (ts : List T), ts.length < k → 2 * ts.length + 1 ≤ n → rall n (rsp 0 [] ts) = pprog n k (seps ts)
  | 0, ts, h, _ => absurd h (by omega)
  | k + 1, ts, hk, hn => by
    obtain ⟨p, hp, hs⟩ := seps_pre ts
    have hl : (seps ts).length ≤ ts.length := by have := congrArg List.length hp; simp at this; omega
    rw [rsp_seps]
    rcases seps_sep ts with h0 | ⟨t, r, h0, ht⟩
    · rw [h0]; rfl
    · rw [h0] at hl ⊢
      have hn' : 2 * (t :: r).length + 1 ≤ n := by omega
      have hcons : rsp 0 [] (t :: r) = rsp (0 + br t) [t] r := by rw [rsp, if_neg (by rw [ht]; simp)]
      obtain ⟨q, R2, ps, h1, h2, h3⟩ := rsp_first r (0 + br t) [t] (by simp)
      have hfirst : rsp 0 [] (t :: r) = (t :: q) :: ps := by rw [hcons, h1]; rfl
      have e1 : t :: r = (t :: q) ++ R2 := by rw [h2]; rfl
      have hR2 : R2 = [] ∨ ∃ r, R2 = .sep :: r := by
        rcases h3 with ⟨h, _⟩ | ⟨r', _, h, _⟩
        · exact .inl h
        · exact .inr ⟨r', h⟩
      have hq : (t :: q).length ≤ (t :: r).length := by rw [e1]; simp
      cases hst : pstmt n n (t :: r) with
      | none =>
        rw [pprog_none hst, hfirst, rall]
        cases hr : rstmt n (t :: q) with
        | none => rfl
        | some s =>
          exfalso
          have := stmt_rl hr hR2 (m := n) (k := n) (by omega) (by omega)
          rw [← e1, hst] at this
          cases this
      | some sr =>
        obtain ⟨s, R⟩ := sr
        obtain ⟨P, g1, g2, g3, g4⟩ := stmt_lr hst hn'
        have hlen := congrArg List.length g1
        rw [List.length_append] at hlen
        have hP : 1 ≤ P.length := by cases P with | nil => exact absurd rfl g2 | cons _ _ => simp
        have g4' := g4 []
        cases R with
        | nil =>
          rw [pprog_end hst]
          rw [List.append_nil] at g1
          have : rsp 0 [] (t :: r) = [P] := by
            have := g4' []
            rw [List.append_nil, List.append_nil] at this
            rw [g1, this, rsp, if_neg (by simpa using g2), List.reverse_reverse]
          rw [this, rall, g3]
          rfl
        | cons t' R' =>
          by_cases ht' : t' = .sep
          · subst ht'
            have : rsp 0 [] (t :: r) = P :: rsp 0 [] R' := by
              rw [g1, g4', List.append_nil, rsp_sep _ _ (by simpa using g2), List.reverse_reverse]
            have ih := prog_eq n k R' (by simp at hlen hl; omega) (by simp at hlen hl; omega)
            rw [pprog_sep hst, this, rall, g3, ih]
            cases pprog n k (seps R') <;> rfl
          · rw [pprog_bad hst ht', hfirst, rall]
            cases hr : rstmt n (t :: q) with
            | none => rfl
            | some s' =>
              exfalso
              have := stmt_rl hr hR2 (m := n) (k := n) (by omega) (by omega)
              rw [← e1, hst] at this
              simp only [Option.some.injEq, Prod.mk.injEq] at this
              obtain ⟨_, h5⟩ := this
              rcases hR2 with h6 | ⟨r6, h6⟩
              · rw [h6] at h5; cases h5
              · rw [h6] at h5; cases h5; exact ht' rfl
end Pl
namespace Pl
mutual
def E.code : E → List Sv
  | .opd o => o.code
  | .one f e => e.code ++ [⟨3, [], [], f.one⟩]
  | .two o f e => e.code ++ (o.code ++ [⟨4, [], [], f.two⟩])
def O.code : O → List Sv
  | .nums v vs => [⟨1, v :: vs, [], f0⟩]
  | .name nm => [⟨2, [], nm, f0⟩]
  | .br e => e.code
end
mutual
def E.nest : E → Nat
  | .opd o => o.nest
  | .one _ e => e.nest
  | .two o _ e => max e.nest o.nest
def O.nest : O → Nat
  | .nums _ _ => 0
  | .name _ => 0
  | .br e => e.nest + 1
end
mutual
def E.long : E → Bool
  | .opd o => o.long
  | .one _ e => e.long
  | .two o _ e => e.long || o.long
def O.long : O → Bool
  | .nums _ vs => decide (1000 < vs.length + 1)
  | .name _ => false
  | .br e => e.long
end
mutual
def E.bey : Nat → E → Bool
  | d, .opd o => o.bey d
  | d, .one _ e => e.bey d
  | d, .two o _ e => o.bey d || e.bey d
def O.bey : Nat → O → Bool
  | _, .nums _ vs => decide (1000 < vs.length + 1)
  | _, .name _ => false
  | d, .br e => decide (40 < d + 1) || e.bey (d + 1)
end
mutual
theorem E.bey_eq : ∀ (e : E) (d : Nat), e.bey d = (e.long || (decide (0 < e.nest) && decide (40 < d + e.nest)))
  | .opd o, d => O.bey_eq o d
  | .one _ e, d => E.bey_eq e d
  | .two o _ e, d => by
    rw [E.bey, E.long, E.nest, O.bey_eq o d, E.bey_eq e d, Bool.eq_iff_iff]
    cases e.long <;> cases o.long <;> simp
    omega
theorem O.bey_eq : ∀ (o : O) (d : Nat), o.bey d = (o.long || (decide (0 < o.nest) && decide (40 < d + o.nest)))
  | .nums _ vs, d => by simp [O.bey, O.long, O.nest]
  | .name _, d => by simp [O.bey, O.long, O.nest]
  | .br e, d => by
    rw [O.bey, O.long, O.nest, E.bey_eq e (d + 1), Bool.eq_iff_iff]
    cases e.long <;> simp
    omega
end
/-- spec's fine against impl's beyond -/
def E.fine (e : E) : Bool := decide (e.nest ≤ 40) && !e.long
theorem E.fine_bey (e : E) : e.fine = !e.bey 0 := by
  rw [E.bey_eq, E.fine, Bool.eq_iff_iff]
  cases e.long <;> simp
  omega
mutual
theorem E.code_len : ∀ e : E, e.wf → e.code.length ≤ e.toks.length
  | .opd o, h => O.code_len o h
  | .one f e, h => by
    have := E.code_len e h.2.2
    have := F.toks_len h.1
    simp [E.code, E.toks]
    omega
  | .two o f e, h => by
    have := E.code_len e h.2.2.2
    have := O.code_len o h.1
    have := F.toks_len h.2.1
    simp [E.code, E.toks]
    omega
theorem O.code_len : ∀ o : O, o.wf → o.code.length ≤ o.toks.length
  | .nums _ _, _ => by simp [O.code, O.toks]
  | .name _, _ => by simp [O.code, O.toks]
  | .br e, h => by
    have := E.code_len e h
    simp [O.code, O.toks]
    omega
end
mutual
theorem E.nest_len : ∀ e : E, e.nest ≤ e.toks.length
  | .opd o => O.nest_len o
  | .one f e => by
    have := E.nest_len e
    simp [E.nest, E.toks]
    omega
  | .two o f e => by
    have := E.nest_len e
    have := O.nest_len o
    simp [E.nest, E.toks]
    omega
theorem O.nest_len : ∀ o : O, o.nest ≤ o.toks.length
  | .nums _ _ => by simp [O.nest]
  | .name _ => by simp [O.nest]
  | .br e => by
    have := E.nest_len e
    simp [O.nest, O.toks]
    omega
end
mutual
theorem E.code_nums : ∀ e : E, ∀ s ∈ e.code, s.nums.length ≤ e.toks.length
  | .opd o, s, h => O.code_nums o s h
  | .one f e, s, h => by
    simp only [E.code, List.mem_append, List.mem_singleton] at h
    rcases h with h | rfl
    · have := E.code_nums e s h
      simp [E.toks]; omega
    · simp
  | .two o f e, s, h => by
    simp only [E.code, List.mem_append, List.mem_singleton] at h
    rcases h with h | h | rfl
    · have := E.code_nums e s h
      simp [E.toks]; omega
    · have := O.code_nums o s h
      simp [E.toks]; omega
    · simp
theorem O.code_nums : ∀ o : O, ∀ s ∈ o.code, s.nums.length ≤ o.toks.length
  | .nums v vs, s, h => by simp [O.code] at h; subst h; simp [O.toks]
  | .name _, s, h => by simp [O.code] at h; subst h; simp
  | .br e, s, h => by have := E.code_nums e s h; simp [O.toks]; omega
end
/-- a statement as a value -/
def S.tv : S → Tv
  | .val e => ⟨1, [], e.code, []⟩
  | .asg nm e => ⟨2, nm, e.code, []⟩
  | .fn nm gs e => ⟨3, nm, e.code, gs.map fun g => ⟨g.1.code, g.2.code⟩⟩
def gsB (gs : List (E × E)) : Bool := gs.any fun g => g.1.bey 0 || g.2.bey 0
def gsF (gs : List (E × E)) : Bool := gs.all fun g => g.1.fine && g.2.fine
theorem gsF_eq (gs : List (E × E)) : gsF gs = !gsB gs := by
  induction gs with
  | nil => rfl
  | cons g gs ih =>
    simp only [gsF, gsB, List.all_cons, List.any_cons] at ih ⊢
    rw [ih, E.fine_bey, E.fine_bey]
    cases g.1.bey 0 <;> cases g.2.bey 0 <;> simp
def S.bey : S → Bool
  | .val e => e.bey 0
  | .asg _ e => e.bey 0
  | .fn _ gs e => gsB gs || e.bey 0
def S.fine : S → Bool
  | .val e => e.fine
  | .asg _ e => e.fine
  | .fn _ gs e => gsF gs && e.fine
theorem S.fine_bey (s : S) : s.fine = !s.bey := by
  cases s with
  | val e => exact e.fine_bey
  | asg _ e => exact e.fine_bey
  | fn _ gs e => simp only [S.fine, S.bey, gsF_eq, e.fine_bey, Bool.not_or]
end Pl
end Go.Proofs.YtljkolffjjhgeaaDoor
