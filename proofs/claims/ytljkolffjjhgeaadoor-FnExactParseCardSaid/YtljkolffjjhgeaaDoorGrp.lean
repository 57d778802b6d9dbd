import Derived.Test.YtljkolffjjhgeaaDoorPn
namespace Go.Proofs.YtljkolffjjhgeaaDoor
set_option linter.unusedVariables false
set_option maxRecDepth 100000
namespace Pl
/-- a token of a text that has no bad one -/
inductive T where
  | num (v : Int)
  | arr (nm : List UInt8)
  | fn (nm : List UInt8)
  | op (m : Mg)
  | lp | rp | lb | rb | col | asg | sl | bs | amp | dot | sep
/-- a function as it stands in a text -/
inductive F where
  | call (nm : List UInt8)
  | plain (m : Mg)
  | red (m : Mg)
  | scan (m : Mg)
  | inner (m m' : Mg)
  | outer (m : Mg)
  | bad
mutual
/-- an expr, with its brackets -/
inductive E where
  | opd (o : O)
  | one (f : F) (e : E)
  | two (o : O) (f : F) (e : E)
inductive O where
  | nums (v : Int) (vs : List Int)
  | name (nm : List UInt8)
  | br (e : E)
end
def en (m : Mg) : Int := if m.tk = 5 then m.tw else 0
def F.one : F → Fnv
  | .call nm => ⟨10, 0, 0, nm⟩
  | .plain m => ⟨m.ok, m.ow, 0, []⟩
  | .red m => ⟨3, en m, 0, []⟩
  | .scan m => ⟨4, en m, 0, []⟩
  | _ => f0
def F.two : F → Fnv
  | .call nm => ⟨10, 0, 0, nm⟩
  | .plain m => ⟨m.tk, m.tw, 0, []⟩
  | .inner m m' => ⟨8, en m, en m', []⟩
  | .outer m => ⟨7, en m, 0, []⟩
  | _ => f0
def F.toks : F → List T
  | .call nm => [.fn nm]
  | .plain m => [.op m]
  | .red m => [.op m, .sl]
  | .scan m => [.op m, .bs]
  | .inner m m' => [.op m, .dot, .op m']
  | .outer m => [.amp, .op m]
  | .bad => []
def F.wf : F → Prop
  | .red m => en m ≠ 0
  | .scan m => en m ≠ 0
  | .inner m m' => en m ≠ 0 ∧ en m' ≠ 0
  | .outer m => en m ≠ 0
  | .bad => False
  | _ => True
mutual
def E.toks : E → List T
  | .opd o => o.toks
  | .one f e => f.toks ++ e.toks
  | .two o f e => o.toks ++ (f.toks ++ e.toks)
def O.toks : O → List T
  | .nums v vs => .num v :: vs.map .num
  | .name nm => [.arr nm]
  | .br e => .lp :: (e.toks ++ [.rp])
end
mutual
def E.wf : E → Prop
  | .opd o => o.wf
  | .one f e => f.wf ∧ f.one.k ≠ 0 ∧ e.wf
  | .two o f e => o.wf ∧ f.wf ∧ f.two.k ≠ 0 ∧ e.wf
def O.wf : O → Prop
  | .br e => e.wf
  | _ => True
end
/-- impl's way: from the left -/
def atF : List T → Bool
  | .fn _ :: _ => true
  | .op _ :: _ => true
  | .amp :: _ => true
  | _ => false
def enT : List T → Int
  | .op m :: _ => en m
  | _ => 0
def pfun : List T → F × List T
  | .fn nm :: r => (.call nm, r)
  | .amp :: .op m :: r => (if en m = 0 then .bad else .outer m, r)
  | .amp :: r => (.bad, r.tail)
  | .op m :: .sl :: r => (if en m = 0 then .bad else .red m, r)
  | .op m :: .bs :: r => (if en m = 0 then .bad else .scan m, r)
  | .op m :: .dot :: .op m' :: r => (if en m = 0 ∨ en m' = 0 then .bad else .inner m m', r)
  | .op m :: .dot :: r => (.bad, r.tail)
  | .op m :: r => (.plain m, r)
  | r => (.bad, r)
def spn : List T → List Int × List T
  | .num v :: r => (v :: (spn r).1, (spn r).2)
  | r => ([], r)
mutual
def pexpr : Nat → List T → Option (E × List T)
  | 0, _ => none
  | n + 1, ts =>
    if atF ts then
      if (pfun ts).1.one.k = 0 then none
      else match pexpr n (pfun ts).2 with
        | some (e, r) => some (.one (pfun ts).1 e, r)
        | none => none
    else match popnd n ts with
      | none => none
      | some (o, r) =>
        if atF r then
          if (pfun r).1.two.k = 0 then none
          else match pexpr n (pfun r).2 with
            | some (e, r') => some (.two o (pfun r).1 e, r')
            | none => none
        else some (.opd o, r)
def popnd : Nat → List T → Option (O × List T)
  | 0, _ => none
  | _ + 1, .num v :: r => some (.nums v (spn r).1, (spn r).2)
  | _ + 1, .arr nm :: r => some (.name nm, r)
  | n + 1, .lp :: r => match pexpr n r with
    | some (e, .rp :: r') => some (.br e, r')
    | _ => none
  | _ + 1, _ => none
end
/-- spec's way: from the right (lists turned round) -/
def rfun : List T → Option (F × List T)
  | .sl :: .op m :: r => if en m = 0 then none else some (.red m, r)
  | .sl :: _ => none
  | .bs :: .op m :: r => if en m = 0 then none else some (.scan m, r)
  | .bs :: _ => none
  | .op m' :: .dot :: .op m :: r => if en m = 0 ∨ en m' = 0 then none else some (.inner m m', r)
  | _ :: .dot :: _ => none
  | .op m :: .amp :: r => if en m = 0 then none else some (.outer m, r)
  | _ :: .amp :: _ => none
  | .fn nm :: r => some (.call nm, r)
  | .op m :: r => some (.plain m, r)
  | _ :: r => some (.bad, r)
  | [] => none
def ends : List T → Bool
  | .num _ :: _ => true
  | .arr _ :: _ => true
  | .rp :: _ => true
  | _ => false
/-- from behind a close bracket to its open one: what is inside, as it stands, and what is in front, turned round -/
def cut : Nat → List T → List T → Option (List T × List T)
  | _, _, [] => none
  | k, acc, .rp :: r => cut (k + 1) (.rp :: acc) r
  | 0, acc, .lp :: r => some (acc, r)
  | k + 1, acc, .lp :: r => cut k (.lp :: acc) r
  | k, acc, t :: r => cut k (t :: acc) r
mutual
def rexpr : Nat → List T → Option E
  | 0, _ => none
  | n + 1, ts => match ropnd n ts.reverse with
    | none => none
    | some (o, r) => rloop n (.opd o) r
def ropnd : Nat → List T → Option (O × List T)
  | 0, _ => none
  | _ + 1, .num v :: r => some (match (v :: (spn r).1).reverse with | a :: l => .nums a l | [] => .nums v [], (spn r).2)
  | _ + 1, .arr nm :: r => some (.name nm, r)
  | n + 1, .rp :: r => match cut 0 [] r with
    | none => none
    | some (i, r') => match rexpr n i with
      | some e => some (.br e, r')
      | none => none
  | _ + 1, _ => none
def rloop : Nat → E → List T → Option E
  | 0, _, _ => none
  | n + 1, e, r =>
    if r = [] then some e
    else match rfun r with
      | none => none
      | some (f, r1) =>
        if ends r1 then match ropnd n r1 with
          | none => none
          | some (o, r2) => if f.two.k = 0 then none else rloop n (.two o f e) r2
        else if f.one.k = 0 then none else rloop n (.one f e) r1
end
end Pl
namespace Pl
theorem spn_eq : ∀ ts : List T, ts = (spn ts).1.map .num ++ (spn ts).2
  | [] => rfl
  | .num v :: r => by
    have := spn_eq r
    simp only [spn, List.map_cons, List.cons_append]
    rw [← this]
  | .arr _ :: _ => rfl
  | .fn _ :: _ => rfl
  | .op _ :: _ => rfl
  | .lp :: _ => rfl
  | .rp :: _ => rfl
  | .lb :: _ => rfl
  | .rb :: _ => rfl
  | .col :: _ => rfl
  | .asg :: _ => rfl
  | .sl :: _ => rfl
  | .bs :: _ => rfl
  | .amp :: _ => rfl
  | .dot :: _ => rfl
  | .sep :: _ => rfl
def isNum : List T → Bool
  | .num _ :: _ => true
  | _ => false
theorem spn_none : ∀ {r : List T}, isNum r = false → spn r = ([], r)
  | [], _ => rfl
  | .num _ :: _, h => by simp [isNum] at h
  | .arr _ :: _, _ => rfl
  | .fn _ :: _, _ => rfl
  | .op _ :: _, _ => rfl
  | .lp :: _, _ => rfl
  | .rp :: _, _ => rfl
  | .lb :: _, _ => rfl
  | .rb :: _, _ => rfl
  | .col :: _, _ => rfl
  | .asg :: _, _ => rfl
  | .sl :: _, _ => rfl
  | .bs :: _, _ => rfl
  | .amp :: _, _ => rfl
  | .dot :: _, _ => rfl
  | .sep :: _, _ => rfl
theorem spn_app : ∀ (vs : List Int) {r : List T}, isNum r = false → spn (vs.map .num ++ r) = (vs, r)
  | [], _, h => spn_none h
  | v :: vs, _, h => by simp [spn, spn_app vs h]
theorem spn_len (ts : List T) : (spn ts).1.length + (spn ts).2.length = ts.length := by
  have := congrArg List.length (spn_eq ts)
  simp at this
  omega
theorem bad_one {f : F} (h : f.one.k ≠ 0) : f ≠ .bad := by rintro rfl; exact h rfl
theorem bad_two {f : F} (h : f.two.k ≠ 0) : f ≠ .bad := by rintro rfl; exact h rfl
theorem pfun_sound (ts : List T) (h : (pfun ts).1 ≠ .bad) : ts = (pfun ts).1.toks ++ (pfun ts).2 ∧ (pfun ts).1.wf := by
  revert h
  unfold pfun
  split
  · intro _; exact ⟨rfl, trivial⟩
  · split
    · intro h; exact absurd rfl h
    · intro _; exact ⟨rfl, by assumption⟩
  · intro h; exact absurd rfl h
  · split
    · intro h; exact absurd rfl h
    · intro _; exact ⟨rfl, by assumption⟩
  · split
    · intro h; exact absurd rfl h
    · intro _; exact ⟨rfl, by assumption⟩
  · split
    · intro h; exact absurd rfl h
    · rename_i h0
      intro _; exact ⟨rfl, by simpa only [not_or, F.wf] using h0⟩
  · intro h; exact absurd rfl h
  · intro _; exact ⟨rfl, trivial⟩
  · intro h; exact absurd rfl h
theorem psound : ∀ n, (∀ ts e r, pexpr n ts = some (e, r) → ts = e.toks ++ r ∧ e.wf) ∧ (∀ ts o r, popnd n ts = some (o, r) → ts = o.toks ++ r ∧ o.wf)
  | 0 => ⟨fun ts e r h => by simp [pexpr] at h, fun ts o r h => by simp [popnd] at h⟩
  | n + 1 => by
    obtain ⟨ih1, ih2⟩ := psound n
    refine ⟨fun ts e r h => ?_, fun ts o r h => ?_⟩
    · rw [pexpr] at h
      split at h
      · split at h
        · cases h
        · rename_i h1
          split at h
          · rename_i e' r' h2
            cases h
            obtain ⟨g1, g2⟩ := pfun_sound ts (bad_one h1)
            obtain ⟨g3, g4⟩ := ih1 _ _ _ h2
            refine ⟨?_, g2, h1, g4⟩
            rw [E.toks, List.append_assoc, ← g3]
            exact g1
          · cases h
      · split at h
        · cases h
        · rename_i o r' h1
          obtain ⟨g1, g2⟩ := ih2 _ _ _ h1
          split at h
          · split at h
            · cases h
            · rename_i h2
              split at h
              · rename_i e' r2 h3
                cases h
                obtain ⟨g3, g4⟩ := pfun_sound r' (bad_two h2)
                obtain ⟨g5, g6⟩ := ih1 _ _ _ h3
                refine ⟨?_, g2, g4, h2, g6⟩
                rw [E.toks, List.append_assoc, List.append_assoc, ← g5, ← g3]
                exact g1
              · cases h
          · cases h
            exact ⟨g1, g2⟩
    · unfold popnd at h
      split at h
      · rename_i heq; cases heq
      · rename_i v r' _
        cases h
        refine ⟨?_, trivial⟩
        simp only [O.toks, List.cons_append]
        rw [← spn_eq]
      · cases h
        exact ⟨rfl, trivial⟩
      · rename_i heq
        cases heq
        split at h
        · rename_i e r2 h1
          cases h
          obtain ⟨g1, g2⟩ := ih1 _ _ _ h1
          refine ⟨?_, g2⟩
          rw [g1]
          simp [O.toks]
        · cases h
      · cases h
/-- a list that begins as an expr does -/
def beg : List T → Bool
  | .num _ :: _ => true
  | .arr _ :: _ => true
  | .lp :: _ => true
  | .fn _ :: _ => true
  | .op _ :: _ => true
  | .amp :: _ => true
  | _ => false
def fol : List T → Bool
  | .sl :: _ => false
  | .bs :: _ => false
  | .dot :: _ => false
  | _ => true
/-- a list that ends an expr -/
def stop : List T → Bool
  | .num _ :: _ => false
  | .fn _ :: _ => false
  | .op _ :: _ => false
  | .amp :: _ => false
  | _ => true
theorem beg_fol : ∀ {r : List T}, beg r = true → fol r = true
  | [], h => rfl
  | t :: r, h => by cases t <;> first | rfl | simp [beg] at h
theorem stop_num : ∀ {r : List T}, stop r = true → isNum r = false
  | [], h => rfl
  | t :: r, h => by cases t <;> first | rfl | simp [stop] at h
theorem stop_atF : ∀ {r : List T}, stop r = true → atF r = false
  | [], h => rfl
  | t :: r, h => by cases t <;> first | rfl | simp [stop] at h
theorem F.atF {f : F} (h : f.wf) (r : List T) : atF (f.toks ++ r) = true := by cases f <;> first | rfl | exact h.elim
theorem F.beg {f : F} (h : f.wf) (r : List T) : beg (f.toks ++ r) = true := by cases f <;> first | rfl | exact h.elim
theorem F.isNum {f : F} (h : f.wf) (r : List T) : isNum (f.toks ++ r) = false := by cases f <;> first | rfl | exact h.elim
theorem O.beg (o : O) (r : List T) : beg (o.toks ++ r) = true := by cases o <;> rfl
theorem O.atF (o : O) (r : List T) : Pl.atF (o.toks ++ r) = false := by cases o <;> rfl
theorem E.beg {e : E} (h : e.wf) (r : List T) : beg (e.toks ++ r) = true := by
  cases e with
  | opd o => exact o.beg r
  | one f e => rw [E.toks, List.append_assoc]; exact F.beg h.1 _
  | two o f e => rw [E.toks, List.append_assoc]; exact o.beg _
theorem pfun_complete {f : F} (h : f.wf) {r : List T} (hr : fol r = true) : pfun (f.toks ++ r) = (f, r) := by
  cases f with
  | call nm => rfl
  | plain m =>
    cases r with
    | nil => rfl
    | cons t r => cases t <;> first | rfl | simp [fol] at hr
  | red m => simp only [F.toks, List.cons_append, List.nil_append, pfun]; rw [if_neg h]
  | scan m => simp only [F.toks, List.cons_append, List.nil_append, pfun]; rw [if_neg h]
  | inner m m' => simp only [F.toks, List.cons_append, List.nil_append, pfun]; rw [if_neg (by rw [not_or]; exact h)]
  | outer m => simp only [F.toks, List.cons_append, List.nil_append, pfun]; rw [if_neg h]
  | bad => exact h.elim
mutual
def E.sz : E → Nat
  | .opd o => o.sz + 1
  | .one f e => e.sz + 1
  | .two o f e => o.sz + e.sz + 1
def O.sz : O → Nat
  | .br e => e.sz + 2
  | _ => 1
end
theorem pcomplete : ∀ n, (∀ e r, e.sz ≤ n → e.wf → stop r = true → pexpr n (e.toks ++ r) = some (e, r)) ∧ (∀ o r, o.sz ≤ n → o.wf → isNum r = false → popnd n (o.toks ++ r) = some (o, r))
  | 0 => ⟨fun e r h => by cases e <;> simp [E.sz] at h, fun o r h => by cases o <;> simp [O.sz] at h⟩
  | n + 1 => by
    obtain ⟨ih1, ih2⟩ := pcomplete n
    refine ⟨fun e r hs hw hr => ?_, fun o r hs hw hr => ?_⟩
    · cases e with
      | opd o =>
        simp only [E.sz] at hs
        rw [pexpr, E.toks, O.atF, ih2 o r (by omega) hw (stop_num hr)]
        simp [stop_atF hr]
      | one f e =>
        simp only [E.sz] at hs
        obtain ⟨w1, w2, w3⟩ := hw
        have hp := pfun_complete w1 (beg_fol (E.beg w3 r))
        rw [pexpr, E.toks, List.append_assoc, F.atF w1, hp]
        simp only [if_true]
        rw [if_neg w2, ih1 e r (by omega) w3 hr]
      | two o f e =>
        simp only [E.sz] at hs
        obtain ⟨w0, w1, w2, w3⟩ := hw
        have hp := pfun_complete w1 (beg_fol (E.beg w3 r))
        rw [pexpr, E.toks, List.append_assoc, List.append_assoc, O.atF, ih2 o _ (by omega) w0 (F.isNum w1 _)]
        simp only [F.atF w1, hp, if_true, Bool.false_eq_true, if_false]
        rw [if_neg w2, ih1 e r (by omega) w3 hr]
    · cases o with
      | nums v vs => simp only [O.toks, List.cons_append, popnd]; rw [spn_app vs hr]
      | name nm => rfl
      | br e =>
        simp only [O.sz] at hs
        simp only [O.toks, List.cons_append, popnd, List.append_assoc, List.nil_append]
        rw [ih1 e (.rp :: r) (by omega) hw rfl]
/-- from the right -/
theorem rfun_sound {r r' : List T} {f : F} (h : rfun r = some (f, r')) (hb : f ≠ .bad) : r = f.toks.reverse ++ r' ∧ f.wf := by
  revert h
  unfold rfun
  split
  · split
    · intro h; cases h
    · intro h; cases h; exact ⟨rfl, by assumption⟩
  · intro h; cases h
  · split
    · intro h; cases h
    · intro h; cases h; exact ⟨rfl, by assumption⟩
  · intro h; cases h
  · split
    · intro h; cases h
    · rename_i h0
      intro h; cases h; exact ⟨rfl, by simpa only [not_or, F.wf] using h0⟩
  · intro h; cases h
  · split
    · intro h; cases h
    · intro h; cases h; exact ⟨rfl, by assumption⟩
  · intro h; cases h
  · intro h; cases h; exact ⟨rfl, trivial⟩
  · intro h; cases h; exact ⟨rfl, trivial⟩
  · intro h; cases h; exact absurd rfl hb
  · intro h; cases h
theorem cut_sound : ∀ (r : List T) (k : Nat) (acc i r' : List T), cut k acc r = some (i, r') → ∃ mid, r = mid ++ .lp :: r' ∧ i = mid.reverse ++ acc
  | [], k, acc, i, r', h => by cases k <;> simp [cut] at h
  | t :: r, k, acc, i, r', h => by
    have step (t : T) (k' : Nat) (h : cut k' (t :: acc) r = some (i, r')) : ∃ mid, t :: r = mid ++ .lp :: r' ∧ i = mid.reverse ++ acc := by
      obtain ⟨mid, h1, h2⟩ := cut_sound r k' (t :: acc) i r' h
      exact ⟨t :: mid, by rw [h1]; rfl, by rw [h2]; simp⟩
    cases t <;> cases k <;> simp only [cut] at h <;> first | exact step _ _ h | (cases h; exact ⟨[], rfl, rfl⟩)
theorem rsound : ∀ n, (∀ ts e, rexpr n ts = some e → ts = e.toks ∧ e.wf) ∧ (∀ r o r', ropnd n r = some (o, r') → r = o.toks.reverse ++ r' ∧ o.wf) ∧ (∀ e r e', rloop n e r = some e' → e.wf → e'.toks = r.reverse ++ e.toks ∧ e'.wf)
  | 0 => ⟨fun ts e h => by simp [rexpr] at h, fun ts o r h => by simp [ropnd] at h, fun e r e' h => by simp [rloop] at h⟩
  | n + 1 => by
    obtain ⟨ih1, ih2, ih3⟩ := rsound n
    refine ⟨fun ts e h => ?_, fun r o r' h => ?_, fun e r e' h hw => ?_⟩
    · rw [rexpr] at h
      split at h
      · cases h
      · rename_i o r h1
        obtain ⟨g1, g2⟩ := ih2 _ _ _ h1
        obtain ⟨g3, g4⟩ := ih3 _ _ _ h g2
        refine ⟨?_, g4⟩
        rw [g3, E.toks]
        have := congrArg List.reverse g1
        simpa using this
    · unfold ropnd at h
      split at h
      · rename_i heq; cases heq
      · rename_i v r2 _
        cases h
        have hq := spn_eq r2
        cases hv : (v :: (spn r2).1).reverse with
        | nil => simp at hv
        | cons a l =>
          refine ⟨?_, trivial⟩
          simp only [O.toks]
          have h2 : v :: (spn r2).1 = (a :: l).reverse := by rw [← hv, List.reverse_reverse]
          have h3 : (T.num a :: l.map T.num).reverse = ((a :: l).reverse).map T.num := by rw [← List.map_cons, List.map_reverse]
          rw [h3, ← h2, List.map_cons, List.cons_append, ← hq]
      · cases h
        exact ⟨rfl, trivial⟩
      · rename_i heq
        cases heq
        split at h
        · cases h
        · rename_i i r3 h1
          split at h
          · rename_i e h2
            cases h
            obtain ⟨g1, g2⟩ := ih1 _ _ h2
            obtain ⟨mid, m1, m2⟩ := cut_sound _ _ _ _ _ h1
            refine ⟨?_, g2⟩
            rw [m1, O.toks]
            rw [List.append_nil] at m2
            rw [← g1, m2]
            simp
          · cases h
      · cases h
    · rw [rloop] at h
      split at h
      · rename_i h0
        cases h
        subst h0
        exact ⟨rfl, hw⟩
      · split at h
        · cases h
        · rename_i f r1 h1
          split at h
          · split at h
            · cases h
            · rename_i o r2 h2
              split at h
              · cases h
              · rename_i h3
                obtain ⟨g1, g2⟩ := rfun_sound h1 (bad_two h3)
                obtain ⟨g3, g4⟩ := ih2 _ _ _ h2
                obtain ⟨g5, g6⟩ := ih3 _ _ _ h ⟨g4, g2, h3, hw⟩
                refine ⟨?_, g6⟩
                rw [g5, g1, g3, E.toks]
                simp
          · split at h
            · cases h
            · rename_i h3
              obtain ⟨g1, g2⟩ := rfun_sound h1 (bad_one h3)
              obtain ⟨g5, g6⟩ := ih3 _ _ _ h ⟨g2, h3, hw⟩
              refine ⟨?_, g6⟩
              rw [g5, g1, E.toks]
              simp
/-- what may stand in front of an expr, turned round -/
def pre : List T → Bool
  | [] => true
  | .fn _ :: _ => true
  | .op _ :: _ => true
  | .sl :: _ => true
  | .bs :: _ => true
  | _ => false
theorem pre_num : ∀ {r : List T}, pre r = true → isNum r = false
  | [], h => rfl
  | t :: r, h => by cases t <;> first | rfl | simp [pre] at h
theorem pre_ends : ∀ {r : List T}, pre r = true → ends r = false
  | [], h => rfl
  | t :: r, h => by cases t <;> first | rfl | simp [pre] at h
def noda : List T → Bool
  | .dot :: _ => false
  | .amp :: _ => false
  | _ => true
theorem pre_noda : ∀ {r : List T}, pre r = true → noda r = true
  | [], h => rfl
  | t :: r, h => by cases t <;> first | rfl | simp [pre] at h
theorem ends_noda : ∀ {r : List T}, ends r = true → noda r = true
  | [], h => rfl
  | t :: r, h => by cases t <;> first | rfl | simp [ends] at h
theorem O.ends (o : O) (r : List T) : Pl.ends (o.toks.reverse ++ r) = true := by
  cases o with
  | nums v vs =>
    cases hv : (O.nums v vs).toks.reverse with
    | nil => simp [O.toks] at hv
    | cons t l =>
      have : t ∈ (O.nums v vs).toks := by rw [← List.mem_reverse, hv]; simp
      simp only [O.toks, List.mem_cons, List.mem_map] at this
      rcases this with rfl | ⟨x, _, rfl⟩ <;> rfl
  | name nm => rfl
  | br e => simp only [O.toks, List.reverse_cons, List.reverse_append]; rfl
theorem F.pre {f : F} (h : f.wf) (r : List T) : Pl.pre (f.toks.reverse ++ r) = true := by cases f <;> first | rfl | exact h.elim
theorem rfun_complete {f : F} (h : f.wf) {r : List T} (hr : noda r = true) : rfun (f.toks.reverse ++ r) = some (f, r) := by
  cases f with
  | call nm =>
    cases r with
    | nil => rfl
    | cons t r => cases t <;> first | rfl | simp [noda] at hr
  | plain m =>
    cases r with
    | nil => rfl
    | cons t r => cases t <;> first | rfl | simp [noda] at hr
  | red m => show rfun (.sl :: .op m :: r) = _; simp only [rfun]; rw [if_neg h]
  | scan m => show rfun (.bs :: .op m :: r) = _; simp only [rfun]; rw [if_neg h]
  | inner m m' => show rfun (.op m' :: .dot :: .op m :: r) = _; simp only [rfun]; rw [if_neg (by rw [not_or]; exact h)]
  | outer m => show rfun (.op m :: .amp :: r) = _; simp only [rfun]; rw [if_neg h]
  | bad => exact h.elim
theorem cut_nums : ∀ (l : List Int) (k : Nat) (acc r : List T), cut k acc (l.map .num ++ r) = cut k (l.reverse.map .num ++ acc) r
  | [], k, acc, r => rfl
  | v :: l, k, acc, r => by
    have : cut k acc ((v :: l).map .num ++ r) = cut k (.num v :: acc) (l.map .num ++ r) := by cases k <;> rfl
    rw [this, cut_nums l]
    simp
mutual
theorem E.cut : ∀ (e : E) (k : Nat) (acc r : List T), e.wf → Pl.cut k acc (e.toks.reverse ++ r) = Pl.cut k (e.toks ++ acc) r
  | .opd o, k, acc, r, h => O.cut o k acc r h
  | .one f e, k, acc, r, h => by
    rw [E.toks, List.reverse_append, List.append_assoc, E.cut e k acc _ h.2.2]
    have hf : ∀ acc, Pl.cut k acc (f.toks.reverse ++ r) = Pl.cut k (f.toks ++ acc) r := by
      intro acc
      obtain ⟨h1, _⟩ := h
      cases f <;> first | exact h1.elim | (cases k <;> rfl)
    rw [hf, List.append_assoc]
  | .two o f e, k, acc, r, h => by
    rw [E.toks, List.reverse_append, List.reverse_append, List.append_assoc, List.append_assoc, E.cut e k acc _ h.2.2.2]
    have hf : ∀ acc r, Pl.cut k acc (f.toks.reverse ++ r) = Pl.cut k (f.toks ++ acc) r := by
      intro acc r
      obtain ⟨_, h1, _⟩ := h
      cases f <;> first | exact h1.elim | (cases k <;> rfl)
    rw [hf, O.cut o k _ r h.1, List.append_assoc, List.append_assoc]
theorem O.cut : ∀ (o : O) (k : Nat) (acc r : List T), o.wf → Pl.cut k acc (o.toks.reverse ++ r) = Pl.cut k (o.toks ++ acc) r
  | .nums v vs, k, acc, r, h => by
    have e1 : (O.nums v vs).toks = (v :: vs).map .num := rfl
    rw [e1, ← List.map_reverse, cut_nums, List.reverse_reverse]
  | .name nm, k, acc, r, h => by cases k <;> rfl
  | .br e, k, acc, r, h => by
    simp only [O.toks, List.reverse_cons, List.reverse_append, List.append_assoc, List.cons_append, List.nil_append, List.reverse_nil]
    have e1 : Pl.cut k acc (.rp :: (e.toks.reverse ++ .lp :: r)) = Pl.cut (k + 1) (.rp :: acc) (e.toks.reverse ++ .lp :: r) := by cases k <;> rfl
    rw [e1, E.cut e (k + 1) _ _ h]
    rfl
end
def E.sp : E → Nat
  | .opd _ => 0
  | .one _ e => e.sp + 1
  | .two _ _ e => e.sp + 1
theorem E.sp_sz : ∀ e : E, e.sp + 1 ≤ e.sz
  | .opd o => by simp [E.sp, E.sz]
  | .one f e => by have := E.sp_sz e; simp only [E.sp, E.sz]; omega
  | .two o f e => by have := E.sp_sz e; simp only [E.sp, E.sz]; omega
def rstart (n : Nat) (r : List T) : Option E := match ropnd n r with
  | none => none
  | some (o, r) => rloop n (.opd o) r
theorem O.toks_len (o : O) : 1 ≤ o.toks.length := by cases o <;> simp [O.toks]
theorem F.toks_len {f : F} (h : f.wf) : 1 ≤ f.toks.length := by cases f <;> first | exact h.elim | simp [F.toks]
theorem ne_of_len {r : List T} (h : 1 ≤ r.length) : ¬ r = [] := by rintro rfl; simp at h
theorem ropnd_br {n : Nat} {r i r' : List T} {e : E} (h1 : cut 0 [] r = some (i, r')) (h2 : rexpr n i = some e) : ropnd (n + 1) (.rp :: r) = some (.br e, r') := by
  simp only [ropnd]
  rw [h1]
  simp only
  rw [h2]
theorem ropnd_nums {n : Nat} {v a : Int} {vs l : List Int} {r : List T} (hv : (v :: vs).reverse = a :: l) (hr : isNum r = false) : ropnd (n + 1) (.num a :: (l.map .num ++ r)) = some (.nums v vs, r) := by
  have h2 : (a :: l).reverse = v :: vs := by rw [← hv, List.reverse_reverse]
  simp only [ropnd]
  rw [spn_app l hr]
  simp only [h2]
mutual
theorem E.rc : ∀ (e : E) (n : Nat) (r : List T), e.sz ≤ n → e.wf → Pl.pre r = true → rstart n (e.toks.reverse ++ r) = rloop (n - e.sp) e r
  | .opd o, n, r, hs, hw, hr => by
    simp only [E.sz] at hs
    rw [rstart, E.toks, O.rc o n r (by omega) hw (pre_num hr)]
    rfl
  | .one f e, n, r, hs, hw, hr => by
    simp only [E.sz] at hs
    have h1 := E.sp_sz e
    obtain ⟨w1, w2, w3⟩ := hw
    rw [E.toks, List.reverse_append, List.append_assoc, E.rc e n _ (by omega) w3 (F.pre w1 r)]
    rw [show n - e.sp = (n - (E.one f e).sp) + 1 by simp only [E.sp]; omega, rloop, if_neg (ne_of_len (by have := F.toks_len w1; simp; omega)), rfun_complete w1 (pre_noda hr)]
    simp only [pre_ends hr, Bool.false_eq_true, if_false]
    rw [if_neg w2]
  | .two o f e, n, r, hs, hw, hr => by
    simp only [E.sz] at hs
    have h1 := E.sp_sz e
    obtain ⟨w0, w1, w2, w3⟩ := hw
    rw [E.toks, List.reverse_append, List.reverse_append, List.append_assoc, List.append_assoc, E.rc e n _ (by omega) w3 (F.pre w1 _)]
    rw [show n - e.sp = (n - (E.two o f e).sp) + 1 by simp only [E.sp]; omega, rloop, if_neg (ne_of_len (by have := F.toks_len w1; simp; omega)), rfun_complete w1 (ends_noda (o.ends r))]
    simp only [o.ends r, if_true]
    rw [O.rc o _ r (by simp only [E.sp]; omega) w0 (pre_num hr)]
    simp only
    rw [if_neg w2]
theorem O.rc : ∀ (o : O) (n : Nat) (r : List T), o.sz ≤ n → o.wf → isNum r = false → ropnd n (o.toks.reverse ++ r) = some (o, r)
  | .nums v vs, 0, r, hs, hw, hr => by simp [O.sz] at hs
  | .nums v vs, n + 1, r, hs, hw, hr => by
    have e1 : (O.nums v vs).toks = (v :: vs).map .num := rfl
    cases hv : (v :: vs).reverse with
    | nil => simp at hv
    | cons a l =>
      rw [e1, ← List.map_reverse, hv, List.map_cons, List.cons_append]
      exact ropnd_nums hv hr
  | .name nm, 0, r, hs, hw, hr => by simp [O.sz] at hs
  | .name nm, n + 1, r, hs, hw, hr => rfl
  | .br e, n, r, hs, hw, hr => by
    simp only [O.sz] at hs
    obtain ⟨m, rfl⟩ : ∃ m, n = m + 1 + 1 := ⟨n - 2, by omega⟩
    have e1 : (O.br e).toks.reverse ++ r = .rp :: (e.toks.reverse ++ .lp :: r) := by simp [O.toks]
    rw [e1]
    have h0 : Pl.cut 0 [] (e.toks.reverse ++ .lp :: r) = some (e.toks, r) := by
      rw [E.cut e 0 _ _ hw, List.append_nil]
      rfl
    refine ropnd_br h0 ?_
    have h1 := E.rc e m [] (by omega) hw rfl
    rw [List.append_nil] at h1
    have h2 := E.sp_sz e
    rw [rexpr]
    show rstart m e.toks.reverse = _
    rw [h1, show m - e.sp = (m - e.sp - 1) + 1 by omega, rloop, if_pos rfl]
end
theorem rcomplete {e : E} (hw : e.wf) {n : Nat} (hn : e.sz + 1 ≤ n) : rexpr n e.toks = some e := by
  obtain ⟨m, rfl⟩ : ∃ m, n = m + 1 := ⟨n - 1, by omega⟩
  have h1 := E.rc e m [] (by omega) hw rfl
  rw [List.append_nil] at h1
  have h2 := E.sp_sz e
  rw [rexpr]
  show rstart m e.toks.reverse = _
  rw [h1, show m - e.sp = (m - e.sp - 1) + 1 by omega, rloop, if_pos rfl]
mutual
theorem E.sz_le : ∀ e : E, e.wf → e.sz ≤ 2 * e.toks.length
  | .opd o, h => by have := O.sz_le o h; simp only [E.sz, E.toks]; omega
  | .one f e, h => by have := E.sz_le e h.2.2; have := F.toks_len h.1; simp only [E.sz, E.toks, List.length_append]; omega
  | .two o f e, h => by have := O.sz_le o h.1; have := E.sz_le e h.2.2.2; simp only [E.sz, E.toks, List.length_append]; omega
theorem O.sz_le : ∀ o : O, o.wf → o.sz + 1 ≤ 2 * o.toks.length
  | .nums v vs, h => by simp only [O.sz, O.toks, List.length_cons]; omega
  | .name nm, h => by simp [O.sz, O.toks]
  | .br e, h => by have := E.sz_le e h; simp only [O.sz, O.toks, List.length_cons, List.length_append, List.length_nil]; omega
end
/-- the two ways agree -/
theorem right_left {n m : Nat} {ts r : List T} {e : E} (h : rexpr n ts = some e) (hr : stop r = true) (hm : 2 * ts.length ≤ m) : pexpr m (ts ++ r) = some (e, r) := by
  obtain ⟨rfl, hw⟩ := (rsound n).1 _ _ h
  exact (pcomplete m).1 e r (by have := e.sz_le hw; omega) hw hr
theorem left_right {n m : Nat} {t r : List T} {e : E} (h : pexpr m t = some (e, r)) (hn : 2 * t.length + 1 ≤ n) : t = e.toks ++ r ∧ e.wf ∧ rexpr n e.toks = some e := by
  obtain ⟨rfl, hw⟩ := (psound m).1 _ _ _ h
  refine ⟨rfl, hw, rcomplete hw ?_⟩
  have := e.sz_le hw
  simp at hn
  omega
end Pl
end Go.Proofs.YtljkolffjjhgeaaDoor
