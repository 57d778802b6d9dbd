import Derived.Test.YtljkolffjjhgeaaDoorCdq
import Derived.Test.YtljkolffjjhgeaaDoorBdm
namespace Go.Proofs.YtljkolffjjhgeaaDoor
open Go.RowKit
set_option linter.unusedVariables false
set_option maxRecDepth 100000
namespace Pl
theorem sgT_sep : sgT [59] = .sep := rfl
theorem it_sep {t : Itk} (h : iOk t) : t.tx = ⟨#[59]⟩ ↔ itT t = .sep := by
  have e : (t.tx = ⟨#[59]⟩) ↔ t.tx.data.toList = [59] := by rw [ba_iff]
  rw [e]
  unfold itT
  rcases h with ⟨h1, h2⟩ | ⟨h1, h2⟩ | ⟨h1, h2⟩ | ⟨h1, h2⟩
  · rw [h1, h2, if_pos rfl]
    simp
  · rw [h1, if_neg (by decide), if_pos rfl]
    simp only [reduceCtorEq, iff_false]
    exact h2.2.2
  · rw [h1, if_neg (by decide), if_neg (by decide), if_pos rfl]
    simp only [reduceCtorEq, iff_false]
    exact h2.2.2
  · rw [h1, if_neg (by decide), if_neg (by decide), if_neg (by decide)]
    constructor
    · intro h
      rw [h]
      exact sgT_sep
    · intro h
      rcases h2 with h2 | h2 | h2
      · exfalso
        simp only [ten, List.mem_cons, List.not_mem_nil, or_false] at h2
        rcases h2 with e | e | e | e | e | e | e | e | e | e <;> rw [e] at h <;> (have h2 := congrArg isSep h; revert h2; decide)
      · exfalso
        obtain ⟨m, hm⟩ := Option.isSome_iff_exists.1 h2
        have hn : t.tx.data.toList ∉ ten := fun hx => by
          have := sg_row (l := t.tx.data.toList) (by simpa [ten] using hx)
          rw [this] at hm
          cases hm
        simp only [ten, List.mem_cons, List.not_mem_nil, or_false, not_or] at hn
        obtain ⟨h0, h1, h2, h3, h4, h5, h6, h7, h8, h9⟩ := hn
        unfold sgT at h
        rw [if_neg h0, if_neg h1, if_neg h2, if_neg h3, if_neg h4, if_neg h5, if_neg h6, if_neg h7, if_neg h8, if_neg h9, hm] at h
        cases h
      · exact h2
theorem seps_cons {t : T} (h : t ≠ .sep) (r : List T) : seps (t :: r) = t :: r := by
  cases t <;> first | rfl | exact absurd rfl h
/-- behind the separators -/
theorem seps_T {l : List Itk} (hl : ∀ t ∈ l, iOk t) : ∀ (n a : Nat), l.length - a ≤ n → seps (rI l a) = rI l (sepA l a)
  | n, a, hn => by
    by_cases ha : a < l.length
    · have hk := hl _ (tkAt_mem ha)
      by_cases hs : (tkAt l a).tx = ⟨#[59]⟩
      · obtain ⟨_, h2⟩ := sep_yes hs
        cases n with
        | zero => omega
        | succ n =>
          rw [h2, rI_cons ha, (it_sep hk).1 hs]
          show seps (rI l (a + 1)) = _
          exact seps_T hl n (a + 1) (by omega)
      · rw [sep_no hs, rI_cons ha, seps_cons (fun e => hs ((it_sep hk).2 e))]
    · have hs : ¬ (tkAt l a).tx = ⟨#[59]⟩ := fun h => ha (sep_yes h).1
      rw [sep_no hs, rI_past (by omega)]
      rfl
theorem sep_lt {l : List Itk} (hl : ∀ t ∈ l, iOk t) (a : Nat) : (a < sepA l a) ↔ ∃ r, rI l a = .sep :: r := by
  by_cases ha : a < l.length
  · have hk := hl _ (tkAt_mem ha)
    by_cases hs : (tkAt l a).tx = ⟨#[59]⟩
    · obtain ⟨_, h2⟩ := sep_yes hs
      have := (sepN_ge l (l.length - (a + 1)) (a + 1)).1
      rw [h2, rI_cons ha, (it_sep hk).1 hs]
      exact ⟨fun _ => ⟨_, rfl⟩, fun _ => by unfold sepA; omega⟩
    · rw [sep_no hs, rI_cons ha]
      refine ⟨fun h => absurd h (Nat.lt_irrefl _), fun ⟨r, hr⟩ => absurd ((it_sep hk).2 (List.cons.inj hr).1) hs⟩
  · have hs : ¬ (tkAt l a).tx = ⟨#[59]⟩ := fun h => ha (sep_yes h).1
    rw [sep_no hs, rI_past (by omega)]
    refine ⟨fun h => absurd h (Nat.lt_irrefl _), fun ⟨r, hr⟩ => by cases hr⟩
theorem sepA_le {l : List Itk} {a : Nat} (h : a ≤ l.length) : a ≤ sepA l a ∧ sepA l a ≤ l.length := by
  have := sepN_ge l (l.length - a) a
  unfold sepA
  omega
theorem rI_len (l : List Itk) (a : Nat) : (rI l a).length = l.length - a := by simp [rI]
theorem rI_nil {l : List Itk} {a : Nat} (h : rI l a = []) : l.length ≤ a := by
  have := rI_len l a
  rw [h] at this
  simp at this
  omega
end Pl
/-- what code gives -/
def PoK (l : List Pl.Itk) (p cap a : Nat) (ao : Option Addr) (be : Bool) (w : World) (X : Option (Pl.E × List Pl.T)) (e : Ending) (w' : World) : Prop := match X with
  | none => ∃ a' be', e = .returned (.tuple #[.slice none 0 0, .bool false]) ∧ IxP l p cap ao 0 be' w a' w'
  | some (x, r) => ∃ v F a', e = .returned (.tuple #[v, .bool true]) ∧ OwS w' v x.code F ∧ Inb w.heap.size w' F ∧ IxP l p cap ao 0 (be || x.bey 0) w a' w' ∧ a' ≤ l.length ∧ a < a' ∧ Pl.rI l a' = r
theorem px_len {N : Nat} {l : List Pl.Itk} {a : Nat} {x : Pl.E} {r : List Pl.T} (h : Pl.pexpr N (Pl.rI l a) = some (x, r)) : x.code.length ≤ l.length := by
  obtain ⟨h1, h2⟩ := (Pl.psound N).1 _ _ _ h
  have h3 := Pl.E.code_len x h2
  have h4 := congrArg List.length h1
  rw [Pl.rI_len, List.length_append] at h4
  omega
/-- (*impl.parser).code -/
theorem code_any (N : Nat) (l : List Pl.Itk) (p cap a mb mo cp : Nat) (ao : Option Addr) (be : Bool) (w : World) (hl : l.length ≤ 1000000) (ha : a ≤ l.length) (hn : 2 * l.length + 1 ≤ N) (hk : ∀ t ∈ l, Pl.iOk t) (hE : Ej w l p ao mb mo cp) (hP : Ps w p ao l.length cap a 0 be) :
    Calls Tryd.prog 54 #[.pointer (some ⟨p, 0, none⟩)] w (PoK l p cap a ao be w (Pl.pexpr N (Pl.rI l a))) := by
  have K := hideP (expr_all N l p cap a 0 mb mo cp ao be w (by omega) ha (by omega) (by omega) hk hE hP)
  cases hX : Pl.pexpr N (Pl.rI l a) with
  | none =>
    rw [hX] at K
    clear hE hP hX
    go_enter Tryd.func54, Tryd.ntmps54
    go_wp2_with fail
    refine K.out.mono ?_
    rintro e w1 ⟨v, a1, be1, rfl, hv, hI⟩
    have HI := hideP hI
    clear hI
    rcases hv with rfl | ⟨T, q, rfl⟩
    · go_wp2_with fail
      refine bodyPost_ret (v := .tuple #[.slice none 0 0, .bool false]) (by simp [results, Tryd.results54, go_sem]) rfl ⟨a1, be1, rfl, HI.out⟩
    · go_wp2_with fail
      refine bodyPost_ret (v := .tuple #[.slice none 0 0, .bool false]) (by simp [results, Tryd.results54, go_sem]) rfl ⟨a1, be1, rfl, HI.out⟩
  | some q =>
    obtain ⟨x, r⟩ := q
    rw [hX] at K
    have hcl := px_len hX
    have hps : p < w.heap.size := hP.lt
    clear hE hP hX
    go_enter Tryd.func54, Tryd.ntmps54
    go_wp2_with fail
    refine K.out.mono ?_
    rintro e w1 ⟨v, F, a1, rfl, hNd, hF, hI, h1, h2, h3⟩
    obtain ⟨T, q, fn, rfl, hm, he, hC⟩ := cdE x w1 v F hNd F
    have hsz := hI.g.size
    have KC := hideP (hC w1 w.heap.size (.slice none 0 0) [] [] hNd (Own.nil _) (Inb.nil _ _) hF (by simp) (by simp; omega) hsz)
    have HI := hideP hI
    clear hI hC hNd hF K
    have hm' : ∀ w, (method 247 T q "loop.example/s02135/impl.code").run Tryd.prog w = .ok (fn, q) w := hm
    go_wp2_with fail
    refine KC.out.mono ?_
    rintro e w2 ⟨v2, F2, rfl, h9⟩
    have hb : Below w1.heap.size w1 w2 := ⟨h9.g.os, h9.g.tape, h9.g.output, h9.g.size, fun k hk => h9.g.block k hk (by simp [Value.ownBlock])⟩
    have hone := h9.o.one
    have H9 := hideP (show OwS w2 v2 x.code F2 ∧ Inb w.heap.size w2 F2 ∧ IxP l p cap ao 0 (be || x.bey 0) w a1 w2 from ⟨h9.o, h9.i, HI.out.ps.keep hb, grown_then HI.out.g hb hsz, HI.out.le⟩)
    clear h9 hb hm hm' he KC HI
    go_wp2_with fail
    refine bodyPost_ret (v := .tuple #[v2, .bool true]) (by simp [results, Tryd.results54, go_sem]) rfl ⟨v2, F2, a1, rfl, H9.out.1, H9.out.2.1, H9.out.2.2, h1, h2, h3⟩
namespace Pl
theorem tx_col : ∀ t, sgTx t = [58] ↔ t = .col := by intro t; cases t <;> simp [sgTx]
theorem tx_rb : ∀ t, sgTx t = [125] ↔ t = .rb := by intro t; cases t <;> simp [sgTx]
theorem tx_lb : ∀ t, sgTx t = [123] ↔ t = .lb := by intro t; cases t <;> simp [sgTx]
theorem tx_asg : ∀ t, sgTx t = [58, 61] ↔ t = .asg := by intro t; cases t <;> simp [sgTx]
/-- a sign that is next -/
theorem sgn_at {l : List Itk} (hl : ∀ t ∈ l, iOk t) (a : Nat) {c : List UInt8} (hc : c ∈ ten) {T0 : T} (h : ∀ t, sgTx t = c ↔ t = T0) : (tkAt l a).tx = ba c ↔ ∃ r, rI l a = T0 :: r := by
  have hs := sign_T hl a hc
  cases hr : rI l a with
  | nil =>
    rw [hr] at hs
    simpa using hs
  | cons t r =>
    rw [hr] at hs
    have e : (tkAt l a).tx = ba c ↔ sgTx t = c := by simpa using hs
    rw [e, h t]
    simp
theorem rI_next {l : List Itk} {a : Nat} {t : T} {r : List T} (h : rI l a = t :: r) : a < l.length ∧ rI l (a + 1) = r := by
  have ha : a < l.length := by
    have := rI_len l a
    rw [h] at this
    simp at this
    omega
  rw [rI_cons ha] at h
  exact ⟨ha, (List.cons.inj h).2⟩
section
variable {N k : Nat} {ts r r2 : List T} {x y : E}
theorem pb_none (h : pexpr N ts = none) : pbody N (k + 1) ts = none := by rw [pbody, h]
theorem pb_end (h : pexpr N ts = some (x, r)) (hc : ∀ r', r ≠ .col :: r') : pbody N (k + 1) ts = match seps r with | .rb :: r2 => some ([], x, r2) | _ => none := by
  rw [pbody, h]
  split
  · rename_i h1; cases h1
  · rename_i h1; cases h1; exact absurd rfl (hc _)
  · rename_i h1; cases h1; rfl
theorem pb_col_none (h : pexpr N ts = some (x, .col :: r)) (h2 : pexpr N r = none) : pbody N (k + 1) ts = none := by
  rw [pbody, h]
  simp only
  rw [h2]
theorem pb_col_no (h : pexpr N ts = some (x, .col :: r)) (h2 : pexpr N r = some (y, r2)) (hc : ∀ r', r2 ≠ .sep :: r') : pbody N (k + 1) ts = none := by
  rw [pbody, h]
  simp only
  rw [h2]
  split
  · rename_i h1; cases h1; exact absurd rfl (hc _)
  · rfl
theorem pb_col (h : pexpr N ts = some (x, .col :: r)) (h2 : pexpr N r = some (y, .sep :: r2)) : pbody N (k + 1) ts = (pbody N k (seps r2)).map (fun q => ((x, y) :: q.1, q.2)) := by
  rw [pbody, h]
  simp only
  rw [h2]
  simp only
  cases pbody N k (seps r2) with
  | none => rfl
  | some q => rfl
end
/-- what is before -/
def pbA (gs : List (E × E)) (X : Option (List (E × E) × E × List T)) : Option (List (E × E) × E × List T) := X.map fun q => (gs ++ q.1, q.2)
theorem pbA_nil (X : Option (List (E × E) × E × List T)) : pbA [] X = X := by cases X <;> rfl
theorem pbA_cons (gs : List (E × E)) (g : E × E) (X : Option (List (E × E) × E × List T)) : pbA gs (X.map fun q => (g :: q.1, q.2)) = pbA (gs ++ [g]) X := by cases X <;> simp [pbA]
theorem gsB_app (gs : List (E × E)) (g : E × E) : gsB (gs ++ [g]) = (gsB gs || (g.1.bey 0 || g.2.bey 0)) := by simp [gsB]
section
variable {n k : Nat} {ts r : List T}
/-- statements -/
theorem ps_val (h : ∀ t r, ts ≠ t :: .asg :: r) : pstmt n k ts = (pexpr n ts).map fun q => (.val q.1, q.2) := by
  unfold pstmt
  split
  · exact absurd rfl (h _ _)
  · exact absurd rfl (h _ _)
  · exact absurd rfl (h _ _)
  · cases pexpr n ts <;> rfl
theorem ps_asg (nm : List UInt8) : pstmt n k (.arr nm :: .asg :: r) = (pexpr n r).map fun q => (.asg nm q.1, q.2) := by
  unfold pstmt
  simp only
  cases pexpr n r <;> rfl
theorem ps_fn {nm : List UInt8} (h : nm ≠ selfW) : pstmt n k (.fn nm :: .asg :: .lb :: r) = (pbody n k (seps r)).map fun q => (.fn nm q.1 q.2.1, q.2.2) := by
  unfold pstmt
  simp only
  rw [if_neg h]
  cases pbody n k (seps r) <;> rfl
theorem ps_self : pstmt n k (.fn selfW :: .asg :: r) = none := by
  unfold pstmt
  split
  · rename_i h; cases h
  · rename_i h; cases h; simp
  · rfl
  · rename_i h1 h2 h3; exact absurd rfl (h3 _ _)
theorem ps_fn_no {nm : List UInt8} (h : ∀ r', r ≠ .lb :: r') : pstmt n k (.fn nm :: .asg :: r) = none := by
  unfold pstmt
  split
  · rename_i h; cases h
  · rename_i h1; cases h1; exact absurd rfl (h _)
  · rfl
  · rename_i h1 h2 h3; exact absurd rfl (h3 _ _)
theorem ps_no {t : T} (h1 : ∀ nm, t ≠ .arr nm) (h2 : ∀ nm, t ≠ .fn nm) : pstmt n k (t :: .asg :: r) = none := by
  unfold pstmt
  split
  · rename_i h; cases h; exact absurd rfl (h1 _)
  · rename_i h; cases h; exact absurd rfl (h2 _)
  · rfl
  · rename_i h3 h4 h5; exact absurd rfl (h5 _ _)
/-- programs -/
theorem pp_nil : pprog n k [] = some [] := by cases k <;> rfl
theorem pp_none {t : T} (h : pstmt n n (t :: ts) = none) : pprog n (k + 1) (t :: ts) = none := by
  rw [pprog, h]
  simp
theorem pp_last {t : T} {s : S} (h : pstmt n n (t :: ts) = some (s, [])) : pprog n (k + 1) (t :: ts) = some [s] := by
  rw [pprog, h]
  simp
theorem pp_sep {t : T} {s : S} (h : pstmt n n (t :: ts) = some (s, .sep :: r)) : pprog n (k + 1) (t :: ts) = (pprog n k (seps r)).map (s :: ·) := by
  rw [pprog, h]
  · simp only
    cases pprog n k (seps r) <;> rfl
  · simp
theorem pp_no {t u : T} {s : S} (hu : u ≠ .sep) (h : pstmt n n (t :: ts) = some (s, u :: r)) : pprog n (k + 1) (t :: ts) = none := by
  rw [pprog, h]
  · cases u <;> first | rfl | exact absurd rfl hu
  · simp
end
end Pl
/-- the box of a statement, inside a method of the parser -/
structure Bs (w X : World) (l : List Pl.Itk) (p cap : Nat) (ao : Option Addr) (mb mo cp a : Nat) (be : Bool) : Prop where
  e : Ej X l p ao mb mo cp
  ps : Ps X p ao l.length cap a 0 be
  g : w.grownBy X (some p)
  pw : p < w.heap.size
  lt : w.heap.size < X.heap.size
  z0 : X.cell? ⟨w.heap.size, 0, none⟩ = some (.int .i64 0)
  z1 : X.cell? ⟨w.heap.size, 1, none⟩ = some (.string ⟨#[]⟩)
  z2 : X.cell? ⟨w.heap.size, 2, none⟩ = some (.slice none 0 0)
  z3 : X.cell? ⟨w.heap.size, 3, none⟩ = some (.slice none 0 0)
  zf : ∀ j, X.frozen? ⟨w.heap.size, j, none⟩ = false
section
variable {w X X' : World} {l : List Pl.Itk} {p cap : Nat} {ao : Option Addr} {mb mo cp a a' : Nat} {be be' : Bool}
theorem Bs.step (h : Bs w X l p cap ao mb mo cp a be) (hg : X.grownBy X' (some p)) (hP : Ps X' p ao l.length cap a' 0 be') : Bs w X' l p cap ao mb mo cp a' be' := by
  have e := hg.block w.heap.size h.lt (fun e => by cases e; have := h.pw; omega)
  have g (j : Nat) : X'.cell? ⟨w.heap.size, j, none⟩ = X.cell? ⟨w.heap.size, j, none⟩ := World.cell?_of_block e
  exact ⟨h.e.grown (Nat.le_of_lt h.ps.lt) hg, hP, h.g.trans hg, h.pw, Nat.lt_of_lt_of_le h.lt hg.size, (g 0).trans h.z0, (g 1).trans h.z1, (g 2).trans h.z2, (g 3).trans h.z3, fun j => (World.frozen?_of_block (a := ⟨w.heap.size, j, none⟩) e).trans (h.zf j)⟩
theorem Bs.keep (h : Bs w X l p cap ao mb mo cp a be) (hb : Below X.heap.size X X') : Bs w X' l p cap ao mb mo cp a be := h.step (grown_none hb _) (h.ps.keep hb)
theorem Bs.new (hE : Ej w l p ao mb mo cp) (hP : Ps w p ao l.length cap a 0 be) : Bs w (w.alloc (.cells #[.int .i64 0, .string ⟨#[]⟩, .slice none 0 0, .slice none 0 0] 37)) l p cap ao mb mo cp a be := by
  have hb : Below w.heap.size w (w.alloc (.cells #[.int .i64 0, .string ⟨#[]⟩, .slice none 0 0, .slice none 0 0] 37)) := (Below.refl _ _).alloc (Nat.le_refl _) _
  exact ⟨hE.low (hb.mono (Nat.le_of_lt hP.lt)), hP.keep hb, grown_none hb _, hP.lt, by simp, by simp [go_sem], by simp [go_sem], by simp [go_sem], by simp [go_sem], fun j => by simp [go_sem]⟩
/-- the answer is laid into the box -/
theorem Bs.end_ (h : Bs w X l p cap ao mb mo cp a be) (v0 v1 v2 v3 : Value) : Ps (X.setCells w.heap.size 0 [v0, v1, v2, v3]) p ao l.length cap a 0 be ∧ w.grownBy (X.setCells w.heap.size 0 [v0, v1, v2, v3]) (some p) := by
  have hn : ¬ p = w.heap.size := by have := h.pw; omega
  exact ⟨h.ps.far hn 0 _, grown_then h.g (setCells_below (B := w.heap.size) _ (Nat.le_refl _) _ 0 _ (Below.refl _ _)) (Nat.le_refl _)⟩
theorem Bs.end_x (h : Bs w X l p cap ao mb mo cp a be) (ha : a ≤ 1048590) (v0 v1 v2 v3 : Value) : IxP l p cap ao 0 be w a (X.setCells w.heap.size 0 [v0, v1, v2, v3]) := ⟨(h.end_ v0 v1 v2 v3).1, (h.end_ v0 v1 v2 v3).2, ha⟩
end
/-- a statement's value -/
def StV (k : Int) (nm : ByteArray) (c g : Value) : Value := .agg #[.int .i64 k, .string nm, c, g]
def IsS (v : Value) : Prop := ∃ ao n cap, v = .slice ao n cap
/-- what body gives -/
def PoB (l : List Pl.Itk) (p cap a : Nat) (ao : Option Addr) (be : Bool) (nm : ByteArray) (w : World) (X : Option (List (Pl.E × Pl.E) × Pl.E × List Pl.T)) (e : Ending) (w' : World) : Prop := match X with
  | none => ∃ k nm' c g a' be', e = .returned (.tuple #[StV k nm' c g, .bool false]) ∧ IsS c ∧ IsS g ∧ IxP l p cap ao 0 be' w a' w'
  | some (gs, x, r) => ∃ c g F1 F2 a', e = .returned (.tuple #[StV 3 nm c g, .bool true]) ∧ OwS w' c x.code F1 ∧ OwG w' g (gs.map Pl.gv) F2 ∧ Inb w.heap.size w' F1 ∧ Inb w.heap.size w' F2 ∧ (∀ x ∈ F1, x ∉ F2) ∧ IxP l p cap ao 0 (be || Pl.gsB gs || x.bey 0) w a' w' ∧ a' ≤ l.length ∧ a < a' ∧ Pl.rI l a' = r
/-- what stmt gives -/
def PoS (l : List Pl.Itk) (p cap a : Nat) (ao : Option Addr) (be : Bool) (w : World) (X : Option (Pl.S × List Pl.T)) (e : Ending) (w' : World) : Prop := match X with
  | none => ∃ k nm' c g a' be', e = .returned (.tuple #[StV k nm' c g, .bool false]) ∧ IsS c ∧ IsS g ∧ IxP l p cap ao 0 be' w a' w'
  | some (s, r) => ∃ c g F1 F2 a', e = .returned (.tuple #[StV s.tv.k (Pl.ba s.tv.nm) c g, .bool true]) ∧ OwS w' c s.tv.code F1 ∧ OwG w' g s.tv.gs F2 ∧ Inb w.heap.size w' F1 ∧ Inb w.heap.size w' F2 ∧ (∀ x ∈ F1, x ∉ F2) ∧ IxP l p cap ao 0 (be || s.bey) w a' w' ∧ a' ≤ l.length ∧ a < a' ∧ Pl.rI l a' = r
end Go.Proofs.YtljkolffjjhgeaaDoor
