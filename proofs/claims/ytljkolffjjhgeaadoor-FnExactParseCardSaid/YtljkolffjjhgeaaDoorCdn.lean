import Derived.Test.YtljkolffjjhgeaaDoorExl
import Derived.Test.YtljkolffjjhgeaaDoorExz
namespace Go.Proofs.YtljkolffjjhgeaaDoor
open Go.RowKit
set_option linter.unusedVariables false
theorem pexpr_fun {n : Nat} {l : List Pl.Itk} {a : Nat} (h : Pl.atF (Pl.rI l a) = true) : Pl.pexpr (n + 1) (Pl.rI l a) = PA n l a := by
  rw [Pl.pexpr, if_pos h]
  unfold PA
  split
  · rfl
  · cases Pl.pexpr n (Pl.pfun (Pl.rI l a)).2 <;> rfl
theorem pexpr_opd {n : Nat} {l : List Pl.Itk} {a : Nat} (h : Pl.atF (Pl.rI l a) = false) : Pl.pexpr (n + 1) (Pl.rI l a) = PB n (Pl.popnd n (Pl.rI l a)) := by
  rw [Pl.pexpr, if_neg (by rw [h]; simp)]
  cases Pl.popnd n (Pl.rI l a) with
  | none => rfl
  | some q =>
    obtain ⟨o, r⟩ := q
    simp only [PB]
    split
    · split
      · rfl
      · cases Pl.pexpr n (Pl.pfun r).2 <;> rfl
    · rfl
theorem expr_step (n : Nat) (ih : ∀ k, k ≤ n → HXe k) : HXe (n + 1) := by
  intro l p cap a o mb mo cp ao be w hl ha ho hn hk hE hP
  by_cases hat : Pl.atF (Pl.rI l a) = true
  · rw [pexpr_fun hat]
    exact expr_fun n (ih n (Nat.le_refl _)) l p cap a o mb mo cp ao be w hl ha ho hn hk hE hP hat
  · have hat' : Pl.atF (Pl.rI l a) = false := by simpa using hat
    rw [pexpr_opd hat']
    cases hp : Pl.popnd n (Pl.rI l a) with
    | none =>
      have := expr_opd n ih l p cap a o mb mo cp ao be w hl ha ho hn hk hE hP hat' (fun oo r h => by rw [hp] at h; cases h)
      rw [hp] at this
      exact this
    | some q =>
      obtain ⟨oo, r⟩ := q
      by_cases h2 : Pl.atF r = true
      · exact expr_two n ih l p cap a o mb mo cp ao be w hl ha ho hn hk hE hP hat' oo r hp h2
      · have := expr_opd n ih l p cap a o mb mo cp ao be w hl ha ho hn hk hE hP hat' (fun oo' r' h => by rw [hp] at h; cases h; simpa using h2)
        rw [hp] at this
        exact this
theorem expr_upto : ∀ n k, k ≤ n → HXe k
  | 0, k, h => by
    obtain rfl : k = 0 := by omega
    intro l p cap a o mb mo cp ao be w _ _ _ h5
    omega
  | n + 1, k, h => by
    by_cases hk : k ≤ n
    · exact expr_upto n k hk
    · obtain rfl : k = n + 1 := by omega
      exact expr_step n (expr_upto n)
/-- (*impl.parser).expr -/
theorem expr_all (n : Nat) : HXe n := expr_upto n n (Nat.le_refl _)
set_option maxRecDepth 100000
/-- what a node's code method gives: sv with c0 came in, v' with c goes out -/
structure CdR (w w' : World) (B : Nat) (sv v' : Value) (c : List Pl.Sv) (F0 F F' : List Nat) : Prop where
  o : OwS w' v' c F'
  i : Inb B w' F'
  g : w.grownBy w' sv.ownBlock
  f : ∀ x ∈ F', x ∈ F0 ∨ x ∈ F ∨ w.heap.size ≤ x
  b : ∀ b, v'.ownBlock = some b → sv.ownBlock = some b ∨ w.heap.size ≤ b
theorem CdR.refl {w : World} {B : Nat} {sv : Value} {c : List Pl.Sv} {F0 : List Nat} (h : OwS w sv c F0) (hi : Inb B w F0) : CdR w w B sv sv c F0 [] F0 :=
  ⟨h, hi, World.grownBy.refl _ _, fun x hx => .inl hx, fun b hb => .inl hb⟩
theorem CdR.alloc {w w' : World} {B : Nat} {sv v' : Value} {c : List Pl.Sv} {F0 F F' : List Nat} (h : CdR w w' B sv v' c F0 F F') (o : Obj) : CdR w (w'.alloc o) B sv v' c F0 F F' :=
  ⟨h.o.below Qs.lives h.i ((Below.refl w'.heap.size w').alloc (Nat.le_refl _) o) (Nat.le_refl _), h.i.up (Nat.le_refl _) (by simp), grown_alloc h.g o, h.f, h.b⟩
theorem CdR.drew {w w' : World} {B : Nat} {sv v' : Value} {c : List Pl.Sv} {F0 F F' : List Nat} (h : CdR w w' B sv v' c F0 F F') (hd : Below w'.heap.size w' w'.drew) : CdR w w'.drew B sv v' c F0 F F' :=
  ⟨h.o.below Qs.lives h.i hd (Nat.le_refl _), h.i.up (Nat.le_refl _) hd.size, grown_then h.g hd h.g.size, h.f, h.b⟩
theorem CdR.trans {w X Y : World} {B : Nat} {sv v1 v2 : Value} {c1 c2 : List Pl.Sv} {F0 F1 F2 Fa Fb : List Nat} (h : CdR w X B sv v1 c1 F0 F1 Fa) (k : CdR X Y B v1 v2 c2 Fa F2 Fb) : CdR w Y B sv v2 c2 F0 (F1 ++ F2) Fb := by
  have hs := h.g.size
  refine ⟨k.o, k.i, ⟨k.g.os.trans h.g.os, k.g.tape.trans h.g.tape, k.g.output.trans h.g.output, Nat.le_trans hs k.g.size, fun q hq hn => (k.g.block q (by omega) (fun e => ?_)).trans (h.g.block q hq hn)⟩, fun x hx => ?_, fun b hb => ?_⟩
  · rcases h.b q e.symm with r | r
    · exact hn r.symm
    · omega
  · rcases k.f x hx with r | r | r
    · rcases h.f x r with s | s | s
      · exact .inl s
      · exact .inr (.inl (List.mem_append_left _ s))
      · exact .inr (.inr s)
    · exact .inr (.inl (List.mem_append_right _ r))
    · exact .inr (.inr (by omega))
  · rcases k.b b hb with r | r
    · exact h.b b r
    · exact .inr (by omega)
theorem CdR.mem {w w' : World} {B : Nat} {sv v' : Value} {c c' : List Pl.Sv} {F0 F G F' : List Nat} (h : CdR w w' B sv v' c F0 F F') (hc : c = c') (hG : ∀ x ∈ F, x ∈ G ∨ w.heap.size ≤ x) : CdR w w' B sv v' c' F0 G F' := by
  subst hc
  refine ⟨h.o, h.i, h.g, fun x hx => ?_, h.b⟩
  rcases h.f x hx with r | r | r
  · exact .inl r
  · rcases hG x r with s | s
    · exact .inr (.inl s)
    · exact .inr (.inr s)
  · exact .inr (.inr r)
/-- from a world that grew above -/
theorem CdR.from_ {w X w' : World} {B : Nat} {sv v' : Value} {c : List Pl.Sv} {F0 F F' : List Nat} (h : CdR X w' B sv v' c F0 F F') (hb : Below w.heap.size w X) : CdR w w' B sv v' c F0 F F' := by
  have hs := hb.size
  refine ⟨h.o, h.i, ⟨h.g.os.trans hb.os, h.g.tape.trans hb.tape, h.g.output.trans hb.output, Nat.le_trans hs h.g.size, fun q hq hn => (h.g.block q (by omega) hn).trans (hb.block q hq)⟩, fun x hx => ?_, fun b hb' => ?_⟩
  · rcases h.f x hx with r | r | r
    · exact .inl r
    · exact .inr (.inl r)
    · exact .inr (.inr (by omega))
  · rcases h.b b hb' with r | r
    · exact .inl r
    · exact .inr (by omega)
/-- one record more -/
theorem OwS.more {w : World} {sv : Value} {c : List Pl.Sv} {F0 G : List Nat} {ys : List Value} {s : Pl.Sv} {q off B cap : Nat} (h : OwS w sv c F0) (hi : Inb B w F0) (hq : Qs w ys s G) (hG : Inb B w G) (hn : G.Nodup) (hd : ∀ x ∈ G, x ∉ F0) (hc : ∀ j u, ys[j]? = some u → w.cell? ⟨q, off + j, none⟩ = some u) (hbd : c.length + 1 ≤ 16777216) (hB : B ≤ w.heap.size) (ty : TypeId) :
    ∃ v' w' F', (Builtin.append_ #[34, 34] ty #[sv, .slice (some ⟨q, off, none⟩) 1 cap]).run Tryd.prog w = .ok v' w' ∧ CdR w w' B sv v' (c ++ [s]) F0 G F' := by
  obtain ⟨v', w', F', h1, h2, h3, h4, h5, h6⟩ := Own.append el34 Qs.lives h hi (RowQ.one hq) hG hn hd (by simpa using hq.len.1) hc hq.len.2 (by simpa using hbd) hB (cap := cap) ty
  refine ⟨v', w', F', h1, h2, h3, h4, fun x hx => ?_, fun b hb => ?_⟩
  · rcases h6 x hx with r | r | r
    · exact .inl r
    · exact .inr (.inl r)
    · exact .inr (.inr (by omega))
  · rcases h5 with r | r
    · exact .inl (r ▸ hb)
    · rw [r] at hb; cases hb; exact .inr (Nat.le_refl _)
theorem wpList_more (w : World) {ops : Array Oper} {rest : List Oper} {o : Oper} {a : Act} {R : Exit → Act → World → Prop} (hg : o.guard = none) (s x : Operand)
    (hop : o.op = Op.call { callee := Callee.builtin Builtin.append, args := #[s, x], argTypes := #[34, 34] }) (v : Value) (q off cap : Nat) (hs : a.eval s = v) (hx : a.eval x = .slice (some ⟨q, off, none⟩) 1 cap) (c : List Pl.Sv) (t : Pl.Sv) (F G : List Nat) (ys : List Value) (B : Nat)
    (h : OwS w v c F) (hi : Inb B w F) (hq : Qs w ys t G) (hG : Inb B w G) (hn : G.Nodup) (hd : ∀ x ∈ G, x ∉ F) (hc : ∀ j u, ys[j]? = some u → w.cell? ⟨q, off + j, none⟩ = some u) (hbd : c.length + 1 ≤ 16777216) (hB : B ≤ w.heap.size)
    (hK : ∀ v' w' F', CdR w w' B v v' (c ++ [t]) F G F' → wpList Tryd.prog ops R rest (a.put o.dst v') w') : wpList Tryd.prog ops R (o :: rest) a w := by
  obtain ⟨v', w', F', hr, h1⟩ := OwS.more h hi hq hG hn hd hc hbd hB (cap := cap) o.type
  exact wpList_append_eq w w' hg s x _ hop v _ v' hs hx hr (hK v' w' F' h1)
/-- (impl.numsNode).code -/
theorem code_nums (X : World) (B : Nat) (sn sv : Value) (ns : List Int) (F F0 : List Nat) (c0 : List Pl.Sv) (hN : Own 3 1 Qi X sn ns F) (hF : Inb B X F) (hS : OwS X sv c0 F0) (hF0 : Inb B X F0) (hd : ∀ x ∈ F, x ∉ F0) (hbd : c0.length + 1 ≤ 16777216) (hB : B ≤ X.heap.size) :
    Calls Tryd.prog 106 #[.agg #[sn], sv] X fun e w' => ∃ v' F', e = .returned v' ∧ CdR X w' B sv v' (c0 ++ [⟨1, ns, [], Pl.f0⟩]) F0 F F' := by
  obtain ⟨ao, cap, rfl⟩ := hN.slice
  obtain ⟨ao0, cap0, rfl⟩ := hS.slice
  have HN := hideP hN
  have HS := hideP hS
  have HF := hideP hF
  have HF0 := hideP hF0
  have HD := hideP hd
  clear hN hS hF hF0 hd
  generalize hl : ns.length = nl at *
  generalize hc : c0.length = cl at *
  go_enter Tryd.func106, Tryd.ntmps106
  have hb : Below X.heap.size X ((X.alloc (.cells #[.slice ao nl cap] 128)).alloc (.cells #[.int .i64 1, .slice ao nl cap, .string ⟨#[]⟩, .int .i64 0, .int .i64 0, .int .i64 0, .string ⟨#[]⟩] 81)) := ((Below.refl _ _).alloc (Nat.le_refl _) _).alloc (by simp) _
  go_wp2_with (at_builtin; refine wpList_more _ rfl _ _ rfl _ _ _ _ rfl rfl c0 ⟨1, ns, [], Pl.f0⟩ F0 F [.int .i64 1, .slice ao nl cap, .string ⟨#[]⟩, .int .i64 0, .int .i64 0, .int .i64 0, .string ⟨#[]⟩] B ?ho ?hi ?hy ?hG ?hn ?hd ?hc ?hbd ?hB ?_)
  case ho => exact HS.out.below Qs.lives HF0.out hb (Nat.le_refl _)
  case hi => exact HF0.out.up (Nat.le_refl _) hb.size
  case hy => exact ⟨_, rfl, HN.out.below Qi.lives HF.out hb (Nat.le_refl _)⟩
  case hG => exact HF.out.up (Nat.le_refl _) hb.size
  case hn => obtain ⟨_, _, _, _, _, hn⟩ := HN.out; exact hn
  case hd => exact HD.out
  case hc => exact cells_new (l := [.int .i64 1, .slice ao nl cap, .string ⟨#[]⟩, .int .i64 0, .int .i64 0, .int .i64 0, .string ⟨#[]⟩]) (by simp)
  case hbd => omega
  case hB => simp; omega
  intro v9 w9 F9 h9
  have H9 := hideP (h9.from_ hb)
  have hone := h9.o.one
  clear h9 hb HN HS
  go_wp2_with fail
  refine bodyPost_ret (v := v9) (by simp [results, Tryd.results106, go_sem]) rfl ⟨v9, F9, rfl, H9.out⟩
/-- (impl.nameNode).code -/
theorem code_name (X : World) (B : Nat) (sv : Value) (nm : List UInt8) (F0 : List Nat) (c0 : List Pl.Sv) (hS : OwS X sv c0 F0) (hF0 : Inb B X F0) (hbd : c0.length + 1 ≤ 16777216) (hB : B ≤ X.heap.size) :
    Calls Tryd.prog 109 #[.agg #[.string (Pl.ba nm)], sv] X fun e w' => ∃ v' F', e = .returned v' ∧ CdR X w' B sv v' (c0 ++ [⟨2, [], nm, Pl.f0⟩]) F0 [] F' := by
  obtain ⟨ao0, cap0, rfl⟩ := hS.slice
  have HS := hideP hS
  have HF0 := hideP hF0
  clear hS hF0
  generalize hc : c0.length = cl at *
  go_enter Tryd.func109, Tryd.ntmps109
  have hb : Below X.heap.size X ((X.alloc (.cells #[.string (Pl.ba nm)] 130)).alloc (.cells #[.int .i64 2, .slice none 0 0, .string (Pl.ba nm), .int .i64 0, .int .i64 0, .int .i64 0, .string ⟨#[]⟩] 81)) := ((Below.refl _ _).alloc (Nat.le_refl _) _).alloc (by simp) _
  go_wp2_with (at_builtin; refine wpList_more _ rfl _ _ rfl _ _ _ _ rfl rfl c0 ⟨2, [], nm, Pl.f0⟩ F0 [] [.int .i64 2, .slice none 0 0, .string (Pl.ba nm), .int .i64 0, .int .i64 0, .int .i64 0, .string ⟨#[]⟩] B ?ho ?hi ?hy ?hG ?hn ?hd ?hc ?hbd ?hB ?_)
  case ho => exact HS.out.below Qs.lives HF0.out hb (Nat.le_refl _)
  case hi => exact HF0.out.up (Nat.le_refl _) hb.size
  case hy => exact ⟨_, rfl, Own.nil _⟩
  case hG => exact Inb.nil _ _
  case hn => exact List.nodup_nil
  case hd => simp
  case hc => exact cells_new (l := [.int .i64 2, .slice none 0 0, .string (Pl.ba nm), .int .i64 0, .int .i64 0, .int .i64 0, .string ⟨#[]⟩]) (by simp)
  case hbd => omega
  case hB => simp; omega
  intro v9 w9 F9 h9
  have H9 := hideP (h9.from_ hb)
  have hone := h9.o.one
  clear h9 hb HS
  go_wp2_with fail
  refine bodyPost_ret (v := v9) (by simp [results, Tryd.results109, go_sem]) rfl ⟨v9, F9, rfl, H9.out⟩
end Go.Proofs.YtljkolffjjhgeaaDoor
