import Derived.Test.YthhfpcdbgndioaaGreatDoorSmt
import Derived.RegionTactic
import Derived.ChangeAlike
import Derived.Deep.RegionWith
namespace Go.Proofs.YthhfpcdbgndioaaGreatDoor
open Go.RowKit
set_option linter.unusedVariables false
set_option maxRecDepth 100000
theorem ready_callw {P : Program} {ops : Array Oper} {Q : Exit → Act → World → Prop} {o : Oper} {a : Act} {w : World} {K : Act → World → Prop} (hw : Region.wanted o (yielded ops a.tmps) = true) (f : FuncId) (args : Array Value) (h : (execOp a.eval o).run P w = .ok (.enter f args) w) (hK : Calls P f args w fun e w' => ∃ v, e = .returned v ∧ K (a.put o.dst v) w') :
    if Region.wanted o (yielded ops a.tmps) = true then Oper.wp P o a w K Q else K (a.put o.dst undef) w := by
  rw [if_pos hw]
  unfold Oper.wp
  rw [h]
  refine hK.mono ?_
  rintro e w' ⟨v, rfl, h⟩
  exact h
theorem step_callw {P : Program} {md : Region.Mode} {ops : Array Oper} {Q : Exit → Act → World → Prop} {S : World → Prop} {fuel : Nat} {listed : Array Bool} {i : Nat} {o : Oper} {a : Act} {w : World} (hr : Region.ready md ops listed = [i]) (ho : ops[i]? = some o) (hw : Region.wanted o (yielded ops a.tmps) = true) (f : FuncId) (args : Array Value) (h : (execOp a.eval o).run P w = .ok (.enter f args) w)
    (hN : Calls P f args w fun e w' => ∃ v, e = .returned v ∧ S w' ∧ wpAnyH P md ops Q S fuel (listed.setIfInBounds i true) (a.put o.dst v) w') : wpAnyH P md ops Q S (fuel + 1) listed a w :=
  wpAnyH_ready hr (by simp) (AllReadyH.cons ho (fun K hK => ready_callw hw f args h (hN.mono (by
    rintro e w' ⟨v, rfl, hS, hW⟩
    exact ⟨v, rfl, hK.out _ _ hS (fun _ => hW)⟩))) AllReadyH.nil)
theorem exec_not {o : Oper} {a : Act} (x : Operand) (b c : Bool) (ho : o.op = Op.unOp UnOp.not 4 x) (hx : a.eval x = .bool b) (hb : (!b) = c) (w : World) : (execOp a.eval o).run Tryz.prog w = .ok (.value (.bool c)) w := by
  subst hb
  simp only [execOp, ho, hx]
  go_simp
theorem exec_nilp {o : Oper} {a : Act} (x : Operand) (b j : Nat) (ho : o.op = Op.nilCheck x) (hx : a.eval x = .pointer (some ⟨b, j, none⟩)) (w : World) : (execOp a.eval o).run Tryz.prog w = .ok (.value (.pointer (some ⟨b, j, none⟩))) w := by
  simp [execOp, ho, hx]
theorem exec_f46_0 {o : Oper} {a : Act} (x : Operand) (b : Nat) (ho : o.op = Op.fieldAddr 54 x 0) (hx : a.eval x = .pointer (some ⟨b, 0, none⟩)) (w : World) : (execOp a.eval o).run Tryz.prog w = .ok (.value (.pointer (some ⟨b, 0, none⟩))) w := by
  simp only [execOp, ho, hx]
  go_simp
theorem exec_f46_1 {o : Oper} {a : Act} (x : Operand) (b : Nat) (ho : o.op = Op.fieldAddr 54 x 1) (hx : a.eval x = .pointer (some ⟨b, 0, none⟩)) (w : World) : (execOp a.eval o).run Tryz.prog w = .ok (.value (.pointer (some ⟨b, 1, none⟩))) w := by
  simp only [execOp, ho, hx]
  go_simp
theorem exec_load3b {o : Oper} {a : Act} (x : Operand) (b j : Nat) (z : Int) (w : World) (ho : o.op = Op.load 3 x) (hx : a.eval x = .pointer (some ⟨b, j, none⟩)) (d : w.cell? ⟨b, j, none⟩ = some (.int .i64 z)) : (execOp a.eval o).run Tryz.prog w = .ok (.value (.int .i64 z)) w := by
  simp only [execOp, ho, hx]
  go_simp
theorem exec_load41 {o : Oper} {a : Act} (x : Operand) (b j : Nat) (ao : Option Addr) (n cap : Nat) (w : World) (ho : o.op = Op.load 49 x) (hx : a.eval x = .pointer (some ⟨b, j, none⟩)) (d : w.cell? ⟨b, j, none⟩ = some (.slice ao n cap)) : (execOp a.eval o).run Tryz.prog w = .ok (.value (.slice ao n cap)) w := by
  simp only [execOp, ho, hx]
  go_simp
theorem exec_len41 {o : Oper} {a : Act} (x : Operand) (ao : Option Addr) (n cap : Nat) (ho : o.op = Op.call { callee := .builtin .len, args := #[x], argTypes := #[49] }) (hx : a.eval x = .slice ao n cap) (w : World) : (execOp a.eval o).run Tryz.prog w = .ok (.value (.int .i64 n)) w := by
  simp [execOp, ho, hx, resolve, invoke, builtin]
  go_simp
theorem exec_lss3 {o : Oper} {a : Act} (x y : Operand) (m n : Int) (b : Bool) (ho : o.op = Op.binOp BinOp.lss 3 x y 3) (hx : a.eval x = .int .i64 m) (hy : a.eval y = .int .i64 n) (hb : decide (m < n) = b) (w : World) : (execOp a.eval o).run Tryz.prog w = .ok (.value (.bool b)) w := by
  subst hb
  simp only [execOp, ho, hx, hy]
  go_simp
theorem exec_pick {o : Oper} {a : Act} (c x y : Operand) (b : Bool) (v : Value) (ho : o.op = Op.pick c x y) (hc : a.eval c = .bool b) (hv : (match b with | true => a.eval x | false => a.eval y) = v) (w : World) : (execOp a.eval o).run Tryz.prog w = .ok (.value v) w := by
  subst hv
  cases b <;> simp only [execOp, ho, hc] <;> go_simp
theorem enter33 : ∀ args w, (callFunc 32 args).run Tryz.prog w = .ok (.enter 32 args) w := enters_of Tryz.func32 (by kernel_rfl) rfl
/-- what program gives -/
def PoR (l : List Pl.Itk) (p cap : Nat) (ao : Option Addr) (be : Bool) (w : World) (X : Option (List Pl.S)) (e : Ending) (w' : World) : Prop := match X with
  | none => ∃ a' be', e = .returned (.tuple #[.slice none 0 0, .bool false]) ∧ IxP l p cap ao 0 be' w a' w'
  | some ss => ∃ v F a', e = .returned (.tuple #[v, .bool true]) ∧ OwP w' v (ss.map Pl.S.tv) F ∧ Inb w.heap.size w' F ∧ IxP l p cap ao 0 (be || ss.any Pl.S.bey) w a' w'
theorem PoR.none_ {l : List Pl.Itk} {p cap : Nat} {ao : Option Addr} {be : Bool} {w w' : World} {Y : Option (List Pl.S)} {a' : Nat} {be' : Bool} (hY : Y = none) (h : IxP l p cap ao 0 be' w a' w') : PoR l p cap ao be w Y (.returned (.tuple #[.slice none 0 0, .bool false])) w' := by
  subst hY
  exact ⟨a', be', rfl, h⟩
/-- inside program -/
structure Pg (w X : World) (l : List Pl.Itk) (p cap : Nat) (ao : Option Addr) (mb mo cp a : Nat) (be : Bool) : Prop where
  e : Ej X l p ao mb mo cp
  ps : Ps X p ao l.length cap a 0 be
  g : w.grownBy X (some p)
  pw : p < w.heap.size
section
variable {w X X' : World} {l : List Pl.Itk} {p cap : Nat} {ao : Option Addr} {mb mo cp a a' : Nat} {be be' : Bool}
theorem Pg.step (h : Pg w X l p cap ao mb mo cp a be) (hg : X.grownBy X' (some p)) (hP : Ps X' p ao l.length cap a' 0 be') : Pg w X' l p cap ao mb mo cp a' be' :=
  ⟨h.e.grown (Nat.le_of_lt h.ps.lt) hg, hP, h.g.trans hg, h.pw⟩
theorem Pg.keep (h : Pg w X l p cap ao mb mo cp a be) (hb : Below X.heap.size X X') : Pg w X' l p cap ao mb mo cp a be := h.step (grown_none hb _) (h.ps.keep hb)
theorem Pg.ofown (h : Pg w X l p cap ao mb mo cp a be) {o : Option Nat} (hg : X.grownBy X' o) (ho : ∀ q, o = some q → w.heap.size ≤ q) : Pg w X' l p cap ao mb mo cp a be := by
  have hz := h.g.size
  have hb : Below w.heap.size X X' := ⟨hg.os, hg.tape, hg.output, hg.size, fun k hk => hg.block k (by omega) (fun e => by have := ho k e.symm; omega)⟩
  have hpw := h.pw
  have ep : X'.heap[p]? = X.heap[p]? := hb.block _ hpw
  have gp (j : Nat) : X'.cell? ⟨p, j, none⟩ = X.cell? ⟨p, j, none⟩ := World.cell?_of_block ep
  have hP := h.ps
  exact ⟨h.e.low (hb.mono (by omega)), ⟨Nat.lt_of_lt_of_le hP.lt hb.size, (gp 0).trans hP.c0, (gp 1).trans hP.c1, (gp 2).trans hP.c2, (gp 3).trans hP.c3, fun j => (World.frozen?_of_block (a := ⟨p, j, none⟩) ep).trans (hP.fz j)⟩, grown_then h.g hb (Nat.le_refl _), h.pw⟩
theorem Pg.ix (h : Pg w X l p cap ao mb mo cp a be) (ha : a ≤ 1048590) : IxP l p cap ao 0 be w a X := ⟨h.ps, h.g, ha⟩
theorem Pg.start (hE : Ej w l p ao mb mo cp) (hP : Ps w p ao l.length cap a 0 be) : Pg w w l p cap ao mb mo cp a be := ⟨hE, hP, World.grownBy.refl _ _, hP.lt⟩
end
/-- what is before -/
def Pl.ppA (ss : List Pl.S) (X : Option (List Pl.S)) : Option (List Pl.S) := X.map fun q => ss ++ q
theorem Pl.ppA_nil (X : Option (List Pl.S)) : Pl.ppA [] X = X := by cases X <;> rfl
theorem Pl.ppA_cons (ss : List Pl.S) (s : Pl.S) (X : Option (List Pl.S)) : Pl.ppA ss (X.map (s :: ·)) = Pl.ppA (ss ++ [s]) X := by cases X <;> simp [Pl.ppA]
/-- the box of a statement -/
structure Sb (q : Nat) (X : World) (k : Int) (nm : ByteArray) (o1 : Option Addr) (n1 c1 : Nat) (o2 : Option Addr) (n2 c2 : Nat) : Prop where
  lt : q < X.heap.size
  d0 : X.cell? ⟨q, 0, none⟩ = some (.int .i64 k)
  d1 : X.cell? ⟨q, 1, none⟩ = some (.string nm)
  d2 : X.cell? ⟨q, 2, none⟩ = some (.slice o1 n1 c1)
  d3 : X.cell? ⟨q, 3, none⟩ = some (.slice o2 n2 c2)
theorem Sb.same {q : Nat} {X X' : World} {k : Int} {nm : ByteArray} {o1 : Option Addr} {n1 c1 : Nat} {o2 : Option Addr} {n2 c2 : Nat} (h : Sb q X k nm o1 n1 c1 o2 n2 c2) (e : X'.heap[q]? = X.heap[q]?) (hz : X.heap.size ≤ X'.heap.size) : Sb q X' k nm o1 n1 c1 o2 n2 c2 := by
  have g (j : Nat) : X'.cell? ⟨q, j, none⟩ = X.cell? ⟨q, j, none⟩ := World.cell?_of_block e
  exact ⟨Nat.lt_of_lt_of_le h.lt hz, (g 0).trans h.d0, (g 1).trans h.d1, (g 2).trans h.d2, (g 3).trans h.d3⟩
theorem Sb.go {q p : Nat} {X X' : World} {k : Int} {nm : ByteArray} {o1 : Option Addr} {n1 c1 : Nat} {o2 : Option Addr} {n2 c2 : Nat} (h : Sb q X k nm o1 n1 c1 o2 n2 c2) (hp : p ≠ q) (hg : X.grownBy X' (some p)) : Sb q X' k nm o1 n1 c1 o2 n2 c2 := h.same (hg.block q h.lt (fun e => by cases e; exact hp rfl)) hg.size
theorem Sb.keep {q : Nat} {X X' : World} {k : Int} {nm : ByteArray} {o1 : Option Addr} {n1 c1 : Nat} {o2 : Option Addr} {n2 c2 : Nat} (h : Sb q X k nm o1 n1 c1 o2 n2 c2) (hb : Below X.heap.size X X') : Sb q X' k nm o1 n1 c1 o2 n2 c2 := h.same (hb.block q h.lt) hb.size
theorem Sb.new (X : World) (k : Int) (nm : ByteArray) (o1 : Option Addr) (n1 c1 : Nat) (o2 : Option Addr) (n2 c2 : Nat) : Sb X.heap.size (X.alloc (.cells #[.int .i64 k, .string nm, .slice o1 n1 c1, .slice o2 n2 c2] 44)) k nm o1 n1 c1 o2 n2 c2 := ⟨by simp, by simp [go_sem], by simp [go_sem], by simp [go_sem], by simp [go_sem]⟩
theorem bdrew (X : World) : Below X.heap.size X X.drew := (Below.refl _ _).drew
set_option maxHeartbeats 4000000 in
/-- (*impl.parser).program -/
theorem program_any (N k : Nat) (l : List Pl.Itk) (p cap a mb mo cp : Nat) (ao : Option Addr) (be : Bool) (w : World) (hl : l.length ≤ 1000000) (ha : a ≤ l.length) (hn : 2 * l.length + 1 ≤ N) (hkl : l.length < k) (hk : ∀ t ∈ l, Pl.iOk t) (hE : Ej w l p ao mb mo cp) (hP : Ps w p ao l.length cap a 0 be) :
    Calls Tryz.prog 17 #[.pointer (some ⟨p, 0, none⟩)] w (PoR l p cap ao be w (Pl.pprog N k (Pl.seps (Pl.rI l a)))) := by
  have K34 : Hid (∀ (X : World) (b : Nat) (bb : Bool), Pg w X l p cap ao mb mo cp b bb → b ≤ l.length → Calls Tryz.prog 33 #[.pointer (some ⟨p, 0, none⟩)] X (PoS l p cap b ao bb X (Pl.pstmt N N (Pl.rI l b)))) := fun X b bb h hb => stmt_any N l p cap b mb mo cp ao bb X hl hb hn hk h.e h.ps
  have K33 : Hid (∀ (X : World) (b : Nat) (bb : Bool), Pg w X l p cap ao mb mo cp b bb → b ≤ l.length → Calls Tryz.prog 32 #[.pointer (some ⟨p, 0, none⟩)] X fun e w' => e = .returned (.bool (decide (b < Pl.sepA l b))) ∧ Ps w' p ao l.length cap (Pl.sepA l b) 0 bb ∧ X.grownBy w' (some p)) := fun X b bb h hb => separators_any l p cap b 0 mb mo cp ao bb X (by omega) (by omega) h.e h.ps
  have PG0 := hideP (Pg.start hE hP)
  have HK := hideP hk
  have hsa := Pl.sepA_le ha
  have HSa : Hid (Pl.seps (Pl.rI l a) = Pl.rI l (Pl.sepA l a)) := Pl.seps_T hk _ a (Nat.le_refl _)
  rw [HSa.out]
  generalize hY : Pl.pprog N k (Pl.rI l (Pl.sepA l a)) = Y at *
  have HY0 := hideP hY
  have k33 := hideP (K33.out _ a be PG0.out ha)
  have hpw : p < w.heap.size := hP.lt
  clear hE hP hk hY HSa
  go_enter Tryz.func17, Tryz.ntmps17
  go_wp2_with fail
  refine k33.out.mono ?_
  rintro e w1 ⟨rfl, hP1, hg1⟩
  have G1 := hideP (PG0.out.step hg1 hP1)
  clear hP1 hg1 k33 PG0
  generalize decide (a < Pl.sepA l a) = bz at *
  generalize hb1 : Pl.sepA l a = a1 at *
  clear hb1
  go_wp2_with fail
  go_loopw [4] (fun u wr => ∃ (b : Nat) (ss : List Pl.S) (F : List Nat) (kk : Nat) (ag : Option Addr) (ng cg : Nat) (bb : Bool), u = .slice ag ng cg ∧ a1 ≤ b ∧ b ≤ l.length ∧ ng ≤ b ∧ ss.length = ng ∧ l.length - b < kk ∧ Hid (Pg w wr l p cap ao mb mo cp b bb) ∧ Hid (OwP wr (.slice ag ng cg) (ss.map Pl.S.tv) F) ∧ Hid (Inb w.heap.size wr F) ∧ Hid (Y = Pl.ppA ss (Pl.pprog N kk (Pl.rI l b))) ∧ Hid (bb = (be || ss.any Pl.S.bey))) (fun _ wr => l.length - (intOf ((wr.cell? ⟨p, 1, none⟩).getD undef)).toNat)
  case atStart => exact ⟨a1, [], [], k, none, 0, 0, be, rfl, Nat.le_refl _, hsa.2, Nat.zero_le _, rfl, by omega, G1, Own.nil _, Inb.nil _ _, by show _ = _; rw [Pl.ppA_nil]; exact HY0.out.symm, by show _ = _; simp⟩
  case round =>
    obtain ⟨b, ss, F, kk, ag, ng, cg, bb, rfl, hab, hb, hngb, hng, hfu, PG, OG, IG, HY, HBB⟩ := hrel
    have HNG := hideP hng
    clear hng HY0 G1
    obtain ⟨kk, rfl⟩ : ∃ m, kk = m + 1 := ⟨kk - 1, by omega⟩
    have hm0 : wr.cell? ⟨p, 0, none⟩ = some (.slice ao l.length cap) := PG.out.ps.c0
    have hm1 : wr.cell? ⟨p, 1, none⟩ = some (.int .i64 b) := PG.out.ps.c1
    have hbd := bdrew wr
    have PGd := hideP (PG.out.keep hbd)
    have OGd := hideP (OG.out.below Qt.lives IG.out hbd (Nat.le_refl _))
    have IGd := hideP (IG.out.up (Nat.le_refl _) hbd.size)
    clear PG OG IG hbd
    by_cases hlt : b < l.length
    · have k34 := hideP (K34.out wr.drew b bb PGd.out hb)
      go_wp2_with fail
      go_region
      generalize wr.drew = wd at *
      cases hX : Pl.pstmt N N (Pl.rI l b) with
      | none =>
        rw [hX] at k34
        have HYN : Hid (Y = none) := by show _ = _; rw [HY.out, Pl.rI_cons hlt, Pl.pp_none (by rw [← Pl.rI_cons hlt]; exact hX)]; rfl
        clear hX HY K33 K34
        go_wp2_with fail
        refine k34.out.mono ?_
        rintro e w2 ⟨k5, nm5, cc5, gg5, a5, be5, rfl, ⟨o1, n1, c1, rfl⟩, ⟨o2, n2, c2, rfl⟩, hI5⟩
        have P5 := hideP (PGd.out.step hI5.g hI5.ps)
        have HE := hideP ((P5.out.keep ((Below.refl _ _).alloc (Nat.le_refl _) (.cells #[.int .i64 k5, .string nm5, .slice o1 n1 c1, .slice o2 n2 c2] 44)).drew).ix hI5.le)
        clear hI5 P5 PGd OGd IGd k34
        simp only [StV]
        go_wp2_with fail
        go_region
        go_wp2_with fail
        refine bodyPost_ret (v := .tuple #[.slice none 0 0, .bool false]) (by simp [results, Tryz.results17, go_sem]) rfl (PoR.none_ HYN.out HE.out)
      | some q =>
        obtain ⟨s, r⟩ := q
        rw [hX] at k34
        have HX := hideP hX
        clear hX
        go_wp2_with fail
        refine k34.out.mono ?_
        rintro e w2 ⟨cc, gg, F1, F2, b2, rfl, hO, hG, hI, hJ, hD, hX2, hle2, hlt2, hr2⟩
        obtain ⟨o1, c1, rfl⟩ := hO.slice
        obtain ⟨o2, c2, rfl⟩ := hG.slice
        generalize hn1 : s.tv.code.length = n1 at hO ⊢
        generalize hn2 : s.tv.gs.length = n2 at hG ⊢
        have P2 := PGd.out.step hX2.g hX2.ps
        obtain ⟨g1, g2⟩ := own_go Qt.lives OGd.out IGd.out hpw hX2.g
        have hzd := PGd.out.g.size
        have D1 : Hid (∀ x ∈ F1 ++ F2, x ∉ F) := fun x hx hm => by
          have h2 := (IGd.out x hm).2
          rcases List.mem_append.1 hx with h | h
          · have := (hI x h).1; omega
          · have := (hJ x h).1; omega
        have BB : Below w2.heap.size w2 (w2.alloc (.cells #[.int .i64 s.tv.k, .string (Pl.ba s.tv.nm), .slice o1 n1 c1, .slice o2 n2 c2] 44)).drew := ((Below.refl _ _).alloc (Nat.le_refl _) _).drew
        have P3 := hideP (P2.keep BB)
        have O3 := hideP (g1.below Qt.lives g2 BB (Nat.le_refl _))
        have I3 := hideP (g2.up (Nat.le_refl _) BB.size)
        have OS := hideP (hO.below Qs.lives hI BB (Nat.le_refl _))
        have IS := hideP (hI.up (B' := w.heap.size) (by omega) BB.size)
        have OQ := hideP (hG.below Qg.lives hJ BB (Nat.le_refl _))
        have IQ := hideP (hJ.up (B' := w.heap.size) (by omega) BB.size)
        have SB := hideP ((Sb.new w2 s.tv.k (Pl.ba s.tv.nm) o1 n1 c1 o2 n2 c2).keep (bdrew _))
        have hz2 : w.heap.size ≤ w2.heap.size := by have := hX2.g.size; omega
        have k33 := hideP (K33.out _ b2 _ P3.out hle2)
        have HD := hideP hD
        have HR2 := hideP hr2
        clear hO hG hI hJ hX2 P2 g1 g2 BB k34 PGd OGd IGd K33 K34 hD hr2 hn1 hn2
        have hsb := Pl.sepA_le hle2
        simp only [StV]
        by_cases hs : b2 < Pl.sepA l b2
        · rw [decide_eq_true hs] at k33
          obtain ⟨r5, hr5⟩ := (Pl.sep_lt HK.out b2).1 hs
          have HST : Hid (Pl.rI l (Pl.sepA l b2) = Pl.seps r5) := by
            show _ = _
            rw [← Pl.seps_T HK.out _ b2 (Nat.le_refl _), hr5]
            rfl
          have HY2 : Hid (Y = Pl.ppA (ss ++ [s]) (Pl.pprog N kk (Pl.rI l (Pl.sepA l b2)))) := by
            show _ = _
            rw [HY.out, Pl.rI_cons hlt, Pl.pp_sep (s := s) (r := r5) (by rw [← Pl.rI_cons hlt, HX.out, ← HR2.out, hr5]), Pl.ppA_cons, HST.out]
          clear HY HST hr5 HX HR2
          generalize hb3 : Pl.sepA l b2 = b3 at *
          clear hb3
          go_wp2_with fail
          refine wp_region_held (S := fun W => True) (by kernel_rfl) ?_
          change wpAnyH _ _ _ _ _ _ _ _ (World.drew _)
          generalize (w2.alloc (.cells #[.int .i64 s.tv.k, .string (Pl.ba s.tv.nm), .slice o1 n1 c1, .slice o2 n2 c2] 44)).drew = W0 at *
          refine wpAnyH_take (i := 0) (v := .bool true) rfl (by kernel_rfl) (by kernel_rfl) (by kernel_rfl) (fun _ _ _ h => h) (Or.inl ⟨by kernel_rfl, fun W hW => exec_moveq (.tmp 6) (.bool true) rfl (by kernel_rfl) W⟩) trivial ?_
          refine wpAnyH_take (i := 1) (v := .bool false) rfl (by kernel_rfl) (by kernel_rfl) (by kernel_rfl) (fun _ _ _ h => h) (Or.inl ⟨by kernel_rfl, fun W hW => exec_not (.tmp 24) true false rfl (by kernel_rfl) rfl W⟩) trivial ?_
          refine wpAnyH_take (i := 2) (v := .bool false) rfl (by kernel_rfl) (by kernel_rfl) (by kernel_rfl) (fun _ _ _ h => h) (Or.inl ⟨by kernel_rfl, fun W hW => exec_moveq (.tmp 25) (.bool false) rfl (by kernel_rfl) W⟩) trivial ?_
          refine wpAnyH_take (i := 3) (v := .pointer (some ⟨p, 0, none⟩)) rfl (by kernel_rfl) (by kernel_rfl) (by kernel_rfl) (fun _ _ _ h => h) (Or.inl ⟨by kernel_rfl, fun W hW => exec_moveq (.tmp 0) (.pointer (some ⟨p, 0, none⟩)) rfl (by kernel_rfl) W⟩) trivial ?_
          refine step_callw (i := 4) (by kernel_rfl) rfl (by kernel_rfl) 32 #[.pointer (some ⟨p, 0, none⟩)] (exec_call1 32 enter33 (.tmp 27) (.pointer (some ⟨p, 0, none⟩)) _ rfl (by kernel_rfl) W0) ?_
          refine k33.out.mono ?_
          rintro e w3 ⟨rfl, hP3, hg3⟩
          refine ⟨_, rfl, trivial, ?_⟩
          refine wpAnyH_take (i := 5) (v := .bool false) rfl (by kernel_rfl) (by kernel_rfl) (by kernel_rfl) (fun _ _ _ h => h) (Or.inl ⟨by kernel_rfl, fun W hW => exec_not (.tmp 28) true false rfl (by kernel_rfl) rfl W⟩) trivial ?_
          refine wpAnyH_take (i := 6) (v := .bool false) rfl (by kernel_rfl) (by kernel_rfl) (by kernel_rfl) (fun _ _ _ h => h) (Or.inl ⟨by kernel_rfl, fun W hW => exec_moveq (.tmp 29) (.bool false) rfl (by kernel_rfl) W⟩) trivial ?_
          refine wpAnyH_take (i := 7) (v := undef) rfl (by kernel_rfl) (by kernel_rfl) (by kernel_rfl) (fun _ _ _ h => h) (Or.inr ⟨by kernel_rfl, rfl⟩) trivial ?_
          refine wpAnyH_take (i := 8) (v := undef) rfl (by kernel_rfl) (by kernel_rfl) (by kernel_rfl) (fun _ _ _ h => h) (Or.inr ⟨by kernel_rfl, rfl⟩) trivial ?_
          refine wpAnyH_take (i := 9) (v := undef) rfl (by kernel_rfl) (by kernel_rfl) (by kernel_rfl) (fun _ _ _ h => h) (Or.inr ⟨by kernel_rfl, rfl⟩) trivial ?_
          refine wpAnyH_take (i := 10) (v := undef) rfl (by kernel_rfl) (by kernel_rfl) (by kernel_rfl) (fun _ _ _ h => h) (Or.inr ⟨by kernel_rfl, rfl⟩) trivial ?_
          refine wpAnyH_take (i := 11) (v := undef) rfl (by kernel_rfl) (by kernel_rfl) (by kernel_rfl) (fun _ _ _ h => h) (Or.inr ⟨by kernel_rfl, rfl⟩) trivial ?_
          refine wpAnyH_take (i := 12) (v := undef) rfl (by kernel_rfl) (by kernel_rfl) (by kernel_rfl) (fun _ _ _ h => h) (Or.inr ⟨by kernel_rfl, rfl⟩) trivial ?_
          refine wpAnyH_take (i := 13) (v := undef) rfl (by kernel_rfl) (by kernel_rfl) (by kernel_rfl) (fun _ _ _ h => h) (Or.inr ⟨by kernel_rfl, rfl⟩) trivial ?_
          refine wpAnyH_take (i := 14) (v := undef) rfl (by kernel_rfl) (by kernel_rfl) (by kernel_rfl) (fun _ _ _ h => h) (Or.inr ⟨by kernel_rfl, rfl⟩) trivial ?_
          refine wpAnyH_take (i := 15) (v := undef) rfl (by kernel_rfl) (by kernel_rfl) (by kernel_rfl) (fun _ _ _ h => h) (Or.inr ⟨by kernel_rfl, rfl⟩) trivial ?_
          refine wpAnyH_take (i := 16) (v := undef) rfl (by kernel_rfl) (by kernel_rfl) (by kernel_rfl) (fun _ _ _ h => h) (Or.inr ⟨by kernel_rfl, rfl⟩) trivial ?_
          refine wpAnyH_take (i := 17) (v := .bool false) rfl (by kernel_rfl) (by kernel_rfl) (by kernel_rfl) (fun _ _ _ h => h) (Or.inl ⟨by kernel_rfl, fun W hW => exec_pick (.tmp 30) (.tmp 40) (.const (.bool false)) false (.bool false) rfl (by kernel_rfl) rfl W⟩) trivial ?_
          refine wpAnyH_take (i := 18) (v := .bool false) rfl (by kernel_rfl) (by kernel_rfl) (by kernel_rfl) (fun _ _ _ h => h) (Or.inl ⟨by kernel_rfl, fun W hW => exec_pick (.tmp 26) (.const (.bool true)) (.tmp 41) false (.bool false) rfl (by kernel_rfl) (by kernel_rfl) W⟩) trivial ?_
          refine wpAnyH_done (by kernel_rfl) ?_ _
          go_simp
          have hpq : p ≠ w2.heap.size := by omega
          have PG3 := hideP (P3.out.step hg3 hP3)
          obtain ⟨x1, x2⟩ := own_go Qt.lives O3.out I3.out hpw hg3
          obtain ⟨x3, x4⟩ := own_go Qs.lives OS.out IS.out hpw hg3
          obtain ⟨x5, x6⟩ := own_go Qg.lives OQ.out IQ.out hpw hg3
          have O4 := hideP x1
          have I4 := hideP x2
          have OS4 := hideP x3
          have IS4 := hideP x4
          have OQ4 := hideP x5
          have IQ4 := hideP x6
          have SB3 := hideP (SB.out.go hpq hg3)
          clear x1 x2 x3 x4 x5 x6 P3 O3 I3 OS IS OQ IQ SB hg3 hP3
          have hbox := SB3.out
          obtain ⟨hbl, d0, d1, d2, d3⟩ := id hbox
          have BA : Below w3.heap.size w3 (w3.alloc (.cells #[.int .i64 s.tv.k, .string (Pl.ba s.tv.nm), .slice o1 n1 c1, .slice o2 n2 c2] 44)) := (Below.refl _ _).alloc (Nat.le_refl _) _
          have hzz := PG3.out.g.size
          clear hbox
          go_wp2_with (at_builtin; refine wpList_append_o el22 Qt.lives _ rfl _ _ rfl _ _ _ _ _ rfl rfl (ss.map Pl.S.tv) [s.tv] F (F1 ++ F2) [.int .i64 s.tv.k, .string (Pl.ba s.tv.nm), .slice o1 n1 c1, .slice o2 n2 c2] w.heap.size ?ho ?hi ?hy ?hG ?hn ?hd ?hm ?hl ?hc ?h1 ?hbd ?hB ?_)
          case ho => exact O4.out.below Qt.lives I4.out BA (Nat.le_refl _)
          case hi => exact I4.out.up (Nat.le_refl _) BA.size
          case hy => exact RowQ.one ⟨_, _, F1, F2, rfl, rfl, OS4.out.below Qs.lives IS4.out BA (Nat.le_refl _), OQ4.out.below Qg.lives IQ4.out BA (Nat.le_refl _)⟩
          case hG => exact (IS4.out.up (Nat.le_refl _) BA.size).app (IQ4.out.up (Nat.le_refl _) BA.size)
          case hn =>
            obtain ⟨_, _, _, _, _, n1⟩ := OS4.out
            obtain ⟨_, _, _, _, _, n2⟩ := OQ4.out
            rw [List.nodup_append]
            exact ⟨n1, n2, fun x hx y hy e => HD.out x hx (e ▸ hy)⟩
          case hd => exact D1.out
          case hm => rfl
          case hl => rfl
          case hc => exact cells_new (by simp)
          case h1 => intro u hu; simp only [List.mem_cons, List.not_mem_nil, or_false] at hu; rcases hu with rfl | rfl | rfl | rfl <;> rfl
          case hbd => rw [List.length_map, HNG.out]; simp; omega
          case hB => simp; omega
          intro v9 w9 F9 ho9 hi9 hg9 _ hf9
          obtain ⟨ag9, cg9, rfl⟩ := ho9.slice
          have P9 := hideP ((PG3.out.keep BA).ofown hg9 (fun q e => (I4.out q (O4.out.lt q e).1).1))
          have hm9 := P9.out.ps.c1
          have HM9 : Hid ((ss ++ [s]).length = ng + 1) := by show _ = _; rw [List.length_append, HNG.out]; rfl
          have hl9 : (ss.map Pl.S.tv ++ [s.tv]).length = ng + 1 := by simp [HNG.out]
          rw [hl9] at ho9
          have O9 : Hid (OwP w9 (.slice ag9 (ng + 1) cg9) ((ss ++ [s]).map Pl.S.tv) F9) := by show Own _ _ _ _ _ _ _; rw [List.map_append]; exact ho9
          have I9 := hideP hi9
          have HB9 : Hid ((bb || s.bey) = (be || (ss ++ [s]).any Pl.S.bey)) := by show _ = _; rw [HBB.out]; simp [Bool.or_assoc]
          rw [hl9]
          clear ho9 hi9 hg9 hf9 hl9 O4 I4 OS4 IS4 OQ4 IQ4 PG3 BA D1 SB3
          go_wp2_with fail
          go_roundw
          case rel => exact ⟨b3, ss ++ [s], F9, kk, ag9, ng + 1, cg9, bb || s.bey, rfl, by omega, by omega, by omega, HM9.out, by omega, P9, O9, I9, HY2, HB9⟩
          case measure => simp [hm1, hm9, intOf]; omega
        · rw [decide_eq_false hs] at k33
          have hb3 : Pl.sepA l b2 = b2 := by omega
          rw [hb3] at k33
          have hS0 : Hid (((w2.alloc (.cells #[.int .i64 s.tv.k, .string (Pl.ba s.tv.nm), .slice o1 n1 c1, .slice o2 n2 c2] 44)).drew).cell? ⟨p, 0, none⟩ = some (.slice ao l.length cap) ∧ ((w2.alloc (.cells #[.int .i64 s.tv.k, .string (Pl.ba s.tv.nm), .slice o1 n1 c1, .slice o2 n2 c2] 44)).drew).cell? ⟨p, 1, none⟩ = some (.int .i64 b2)) := ⟨P3.out.ps.c0, P3.out.ps.c1⟩
          clear hb3
          go_wp2_with fail
          refine wp_region_held (S := fun W => W.cell? ⟨p, 0, none⟩ = some (.slice ao l.length cap) ∧ W.cell? ⟨p, 1, none⟩ = some (.int .i64 b2)) (by kernel_rfl) ?_
          change wpAnyH _ _ _ _ _ _ _ _ (World.drew _)
          generalize (w2.alloc (.cells #[.int .i64 s.tv.k, .string (Pl.ba s.tv.nm), .slice o1 n1 c1, .slice o2 n2 c2] 44)).drew = W0 at *
          refine wpAnyH_take (i := 0) (v := .bool true) rfl (by kernel_rfl) (by kernel_rfl) (by kernel_rfl) (fun _ _ _ h => h) (Or.inl ⟨by kernel_rfl, fun W hW => exec_moveq (.tmp 6) (.bool true) rfl (by kernel_rfl) W⟩) hS0.out ?_
          refine wpAnyH_take (i := 1) (v := .bool false) rfl (by kernel_rfl) (by kernel_rfl) (by kernel_rfl) (fun _ _ _ h => h) (Or.inl ⟨by kernel_rfl, fun W hW => exec_not (.tmp 24) true false rfl (by kernel_rfl) rfl W⟩) hS0.out ?_
          refine wpAnyH_take (i := 2) (v := .bool false) rfl (by kernel_rfl) (by kernel_rfl) (by kernel_rfl) (fun _ _ _ h => h) (Or.inl ⟨by kernel_rfl, fun W hW => exec_moveq (.tmp 25) (.bool false) rfl (by kernel_rfl) W⟩) hS0.out ?_
          refine wpAnyH_take (i := 3) (v := .pointer (some ⟨p, 0, none⟩)) rfl (by kernel_rfl) (by kernel_rfl) (by kernel_rfl) (fun _ _ _ h => h) (Or.inl ⟨by kernel_rfl, fun W hW => exec_moveq (.tmp 0) (.pointer (some ⟨p, 0, none⟩)) rfl (by kernel_rfl) W⟩) hS0.out ?_
          refine step_callw (i := 4) (by kernel_rfl) rfl (by kernel_rfl) 32 #[.pointer (some ⟨p, 0, none⟩)] (exec_call1 32 enter33 (.tmp 27) (.pointer (some ⟨p, 0, none⟩)) _ rfl (by kernel_rfl) W0) ?_
          refine k33.out.mono ?_
          rintro e w3 ⟨rfl, hP3, hg3⟩
          have hS3 : Hid (w3.cell? ⟨p, 0, none⟩ = some (.slice ao l.length cap) ∧ w3.cell? ⟨p, 1, none⟩ = some (.int .i64 b2)) := ⟨hP3.c0, hP3.c1⟩
          refine ⟨_, rfl, hS3.out, ?_⟩
          refine wpAnyH_take (i := 5) (v := .bool true) rfl (by kernel_rfl) (by kernel_rfl) (by kernel_rfl) (fun _ _ _ h => h) (Or.inl ⟨by kernel_rfl, fun W hW => exec_not (.tmp 28) false true rfl (by kernel_rfl) rfl W⟩) hS3.out ?_
          refine wpAnyH_take (i := 6) (v := .bool true) rfl (by kernel_rfl) (by kernel_rfl) (by kernel_rfl) (fun _ _ _ h => h) (Or.inl ⟨by kernel_rfl, fun W hW => exec_moveq (.tmp 29) (.bool true) rfl (by kernel_rfl) W⟩) hS3.out ?_
          refine wpAnyH_take (i := 7) (v := .pointer (some ⟨p, 0, none⟩)) rfl (by kernel_rfl) (by kernel_rfl) (by kernel_rfl) (fun _ _ _ h => h) (Or.inl ⟨by kernel_rfl, fun W hW => exec_moveq (.tmp 0) (.pointer (some ⟨p, 0, none⟩)) rfl (by kernel_rfl) W⟩) hS3.out ?_
          refine wpAnyH_take (i := 8) (v := .pointer (some ⟨p, 0, none⟩)) rfl (by kernel_rfl) (by kernel_rfl) (by kernel_rfl) (fun _ _ _ h => h) (Or.inl ⟨by kernel_rfl, fun W hW => exec_nilp (.tmp 31) p 0 rfl (by kernel_rfl) W⟩) hS3.out ?_
          refine wpAnyH_take (i := 9) (v := .pointer (some ⟨p, 1, none⟩)) rfl (by kernel_rfl) (by kernel_rfl) (by kernel_rfl) (fun _ _ _ h => h) (Or.inl ⟨by kernel_rfl, fun W hW => exec_f46_1 (.tmp 32) p rfl (by kernel_rfl) W⟩) hS3.out ?_
          refine wpAnyH_take (i := 10) (v := .int .i64 b2) rfl (by kernel_rfl) (by kernel_rfl) (by kernel_rfl) (fun _ _ _ h => h) (Or.inl ⟨by kernel_rfl, fun W hW => exec_load3b (.tmp 33) p 1 b2 W rfl (by kernel_rfl) hW.2⟩) hS3.out ?_
          refine wpAnyH_take (i := 11) (v := .pointer (some ⟨p, 0, none⟩)) rfl (by kernel_rfl) (by kernel_rfl) (by kernel_rfl) (fun _ _ _ h => h) (Or.inl ⟨by kernel_rfl, fun W hW => exec_moveq (.tmp 0) (.pointer (some ⟨p, 0, none⟩)) rfl (by kernel_rfl) W⟩) hS3.out ?_
          refine wpAnyH_take (i := 12) (v := .pointer (some ⟨p, 0, none⟩)) rfl (by kernel_rfl) (by kernel_rfl) (by kernel_rfl) (fun _ _ _ h => h) (Or.inl ⟨by kernel_rfl, fun W hW => exec_nilp (.tmp 35) p 0 rfl (by kernel_rfl) W⟩) hS3.out ?_
          refine wpAnyH_take (i := 13) (v := .pointer (some ⟨p, 0, none⟩)) rfl (by kernel_rfl) (by kernel_rfl) (by kernel_rfl) (fun _ _ _ h => h) (Or.inl ⟨by kernel_rfl, fun W hW => exec_f46_0 (.tmp 36) p rfl (by kernel_rfl) W⟩) hS3.out ?_
          refine wpAnyH_take (i := 14) (v := .slice ao l.length cap) rfl (by kernel_rfl) (by kernel_rfl) (by kernel_rfl) (fun _ _ _ h => h) (Or.inl ⟨by kernel_rfl, fun W hW => exec_load41 (.tmp 37) p 0 ao l.length cap W rfl (by kernel_rfl) hW.1⟩) hS3.out ?_
          refine wpAnyH_take (i := 15) (v := .int .i64 l.length) rfl (by kernel_rfl) (by kernel_rfl) (by kernel_rfl) (fun _ _ _ h => h) (Or.inl ⟨by kernel_rfl, fun W hW => exec_len41 (.tmp 38) ao l.length cap rfl (by kernel_rfl) W⟩) hS3.out ?_
          by_cases hl2 : b2 < l.length
          · have HYN : Hid (Y = none) := by
              show _ = _
              have hr : r = Pl.itT (Pl.tkAt l b2) :: Pl.rI l (b2 + 1) := by rw [← HR2.out, Pl.rI_cons hl2]
              have hne : Pl.itT (Pl.tkAt l b2) ≠ .sep := fun e => hs ((Pl.sep_lt HK.out b2).2 ⟨Pl.rI l (b2 + 1), by rw [HR2.out, hr, e]⟩)
              rw [HY.out, Pl.rI_cons hlt, Pl.pp_no hne (by rw [← Pl.rI_cons hlt, HX.out, ← hr])]
              rfl
            have HLL := hideP (show decide ((b2 : Int) < (l.length : Int)) = true from decide_eq_true (by omega))
            clear HY HX HR2
            refine wpAnyH_take (i := 16) (v := .bool true) rfl (by kernel_rfl) (by kernel_rfl) (by kernel_rfl) (fun _ _ _ h => h) (Or.inl ⟨by kernel_rfl, fun W hW => exec_lss3 (.tmp 34) (.tmp 39) b2 l.length true rfl (by kernel_rfl) (by kernel_rfl) HLL.out W⟩) hS3.out ?_
            refine wpAnyH_take (i := 17) (v := .bool true) rfl (by kernel_rfl) (by kernel_rfl) (by kernel_rfl) (fun _ _ _ h => h) (Or.inl ⟨by kernel_rfl, fun W hW => exec_pick (.tmp 30) (.tmp 40) (.const (.bool false)) true (.bool true) rfl (by kernel_rfl) (by kernel_rfl) W⟩) hS3.out ?_
            refine wpAnyH_take (i := 18) (v := .bool true) rfl (by kernel_rfl) (by kernel_rfl) (by kernel_rfl) (fun _ _ _ h => h) (Or.inl ⟨by kernel_rfl, fun W hW => exec_pick (.tmp 26) (.const (.bool true)) (.tmp 41) false (.bool true) rfl (by kernel_rfl) (by kernel_rfl) W⟩) hS3.out ?_
            refine wpAnyH_done (by kernel_rfl) ?_ _
            go_simp
            have HE := hideP ((P3.out.step hg3 hP3).ix (by omega))
            clear P3 O3 I3 OS IS OQ IQ SB hg3 hP3
            go_wp2_with fail
            refine bodyPost_ret (v := .tuple #[.slice none 0 0, .bool false]) (by simp [results, Tryz.results17, go_sem]) rfl (PoR.none_ HYN.out HE.out)
          · have hr : r = [] := by rw [← HR2.out, Pl.rI_past (by omega)]
            have HY2 : Hid (Y = Pl.ppA (ss ++ [s]) (Pl.pprog N kk (Pl.rI l b2))) := by
              show _ = _
              rw [HY.out, Pl.rI_cons hlt, Pl.pp_last (s := s) (by rw [← Pl.rI_cons hlt, HX.out, hr]), Pl.rI_past (by omega), Pl.pp_nil]
              simp [Pl.ppA]
            have HLL := hideP (show decide ((b2 : Int) < (l.length : Int)) = false from decide_eq_false (by omega))
            clear HY HX HR2 hr
            refine wpAnyH_take (i := 16) (v := .bool false) rfl (by kernel_rfl) (by kernel_rfl) (by kernel_rfl) (fun _ _ _ h => h) (Or.inl ⟨by kernel_rfl, fun W hW => exec_lss3 (.tmp 34) (.tmp 39) b2 l.length false rfl (by kernel_rfl) (by kernel_rfl) HLL.out W⟩) hS3.out ?_
            refine wpAnyH_take (i := 17) (v := .bool false) rfl (by kernel_rfl) (by kernel_rfl) (by kernel_rfl) (fun _ _ _ h => h) (Or.inl ⟨by kernel_rfl, fun W hW => exec_pick (.tmp 30) (.tmp 40) (.const (.bool false)) true (.bool false) rfl (by kernel_rfl) (by kernel_rfl) W⟩) hS3.out ?_
            refine wpAnyH_take (i := 18) (v := .bool false) rfl (by kernel_rfl) (by kernel_rfl) (by kernel_rfl) (fun _ _ _ h => h) (Or.inl ⟨by kernel_rfl, fun W hW => exec_pick (.tmp 26) (.const (.bool true)) (.tmp 41) false (.bool false) rfl (by kernel_rfl) (by kernel_rfl) W⟩) hS3.out ?_
            refine wpAnyH_done (by kernel_rfl) ?_ _
            go_simp
            have hpq : p ≠ w2.heap.size := by omega
            have PG3 := hideP (P3.out.step hg3 hP3)
            obtain ⟨x1, x2⟩ := own_go Qt.lives O3.out I3.out hpw hg3
            obtain ⟨x3, x4⟩ := own_go Qs.lives OS.out IS.out hpw hg3
            obtain ⟨x5, x6⟩ := own_go Qg.lives OQ.out IQ.out hpw hg3
            have O4 := hideP x1
            have I4 := hideP x2
            have OS4 := hideP x3
            have IS4 := hideP x4
            have OQ4 := hideP x5
            have IQ4 := hideP x6
            have SB3 := hideP (SB.out.go hpq hg3)
            clear x1 x2 x3 x4 x5 x6 P3 O3 I3 OS IS OQ IQ SB hg3 hP3
            obtain ⟨b3, rfl⟩ : ∃ b3, b3 = b2 := ⟨b2, rfl⟩
            have hbox := SB3.out
            obtain ⟨hbl, d0, d1, d2, d3⟩ := id hbox
            have BA : Below w3.heap.size w3 (w3.alloc (.cells #[.int .i64 s.tv.k, .string (Pl.ba s.tv.nm), .slice o1 n1 c1, .slice o2 n2 c2] 44)) := (Below.refl _ _).alloc (Nat.le_refl _) _
            have hzz := PG3.out.g.size
            clear hbox
            go_wp2_with (at_builtin; refine wpList_append_o el22 Qt.lives _ rfl _ _ rfl _ _ _ _ _ rfl rfl (ss.map Pl.S.tv) [s.tv] F (F1 ++ F2) [.int .i64 s.tv.k, .string (Pl.ba s.tv.nm), .slice o1 n1 c1, .slice o2 n2 c2] w.heap.size ?ho ?hi ?hy ?hG ?hn ?hd ?hm ?hl ?hc ?h1 ?hbd ?hB ?_)
            case ho => exact O4.out.below Qt.lives I4.out BA (Nat.le_refl _)
            case hi => exact I4.out.up (Nat.le_refl _) BA.size
            case hy => exact RowQ.one ⟨_, _, F1, F2, rfl, rfl, OS4.out.below Qs.lives IS4.out BA (Nat.le_refl _), OQ4.out.below Qg.lives IQ4.out BA (Nat.le_refl _)⟩
            case hG => exact (IS4.out.up (Nat.le_refl _) BA.size).app (IQ4.out.up (Nat.le_refl _) BA.size)
            case hn =>
              obtain ⟨_, _, _, _, _, n1⟩ := OS4.out
              obtain ⟨_, _, _, _, _, n2⟩ := OQ4.out
              rw [List.nodup_append]
              exact ⟨n1, n2, fun x hx y hy e => HD.out x hx (e ▸ hy)⟩
            case hd => exact D1.out
            case hm => rfl
            case hl => rfl
            case hc => exact cells_new (by simp)
            case h1 => intro u hu; simp only [List.mem_cons, List.not_mem_nil, or_false] at hu; rcases hu with rfl | rfl | rfl | rfl <;> rfl
            case hbd => rw [List.length_map, HNG.out]; simp; omega
            case hB => simp; omega
            intro v9 w9 F9 ho9 hi9 hg9 _ hf9
            obtain ⟨ag9, cg9, rfl⟩ := ho9.slice
            have P9 := hideP ((PG3.out.keep BA).ofown hg9 (fun q e => (I4.out q (O4.out.lt q e).1).1))
            have hm9 := P9.out.ps.c1
            have HM9 : Hid ((ss ++ [s]).length = ng + 1) := by show _ = _; rw [List.length_append, HNG.out]; rfl
            have hl9 : (ss.map Pl.S.tv ++ [s.tv]).length = ng + 1 := by simp [HNG.out]
            rw [hl9] at ho9
            have O9 : Hid (OwP w9 (.slice ag9 (ng + 1) cg9) ((ss ++ [s]).map Pl.S.tv) F9) := by show Own _ _ _ _ _ _ _; rw [List.map_append]; exact ho9
            have I9 := hideP hi9
            have HB9 : Hid ((bb || s.bey) = (be || (ss ++ [s]).any Pl.S.bey)) := by show _ = _; rw [HBB.out]; simp [Bool.or_assoc]
            rw [hl9]
            clear ho9 hi9 hg9 hf9 hl9 O4 I4 OS4 IS4 OQ4 IQ4 PG3 BA D1 SB3
            go_wp2_with fail
            go_roundw
            case rel => exact ⟨b3, ss ++ [s], F9, kk, ag9, ng + 1, cg9, bb || s.bey, rfl, by omega, by omega, by omega, HM9.out, by omega, P9, O9, I9, HY2, HB9⟩
            case measure => simp [hm1, hm9, intOf]; omega
    · have HYS : Hid (Y = some ss) := by
        show _ = _
        rw [HY.out, Pl.rI_past (by omega), Pl.pp_nil]
        simp [Pl.ppA]
      clear HY K33 K34
      have HE := hideP (PGd.out.ix (by omega))
      go_wp2_with fail
      go_region
      generalize wr.drew = wd at *
      have HP : Hid (PoR l p cap ao be w Y (.returned (.tuple #[.slice ag ng cg, .bool true])) wd) := by
        show PoR _ _ _ _ _ _ _ _ _
        rw [HYS.out]
        exact ⟨_, F, b, rfl, OGd.out, IGd.out, by rw [← HBB.out]; exact HE.out⟩
      clear PGd OGd IGd HE HYS
      go_wp2_with fail
      refine bodyPost_ret (v := .tuple #[.slice ag ng cg, .bool true]) (by simp [results, Tryz.results17, go_sem]) rfl HP.out
end Go.Proofs.YthhfpcdbgndioaaGreatDoor
