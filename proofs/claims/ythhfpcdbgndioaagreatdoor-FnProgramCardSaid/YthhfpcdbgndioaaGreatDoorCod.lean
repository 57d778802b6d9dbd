import Derived.Test.YthhfpcdbgndioaaGreatDoorCdn
namespace Go.Proofs.YthhfpcdbgndioaaGreatDoor
open Go.RowKit
set_option linter.unusedVariables false
set_option maxRecDepth 100000
abbrev mcode (T : TypeId) (q : Value) : Sem (FuncId × Value) := method 292 T q "loop.example/s02135/impl.code"
theorem meth_c119 (p : Value) (w : World) : (mcode 135 p).run Tryz.prog w = .ok (162, p) w := by kernel_rfl
theorem meth_c121 (p : Value) (w : World) : (mcode 138 p).run Tryz.prog w = .ok (165, p) w := by kernel_rfl
theorem meth_c128 (p : Value) (w : World) : (mcode 131 p).run Tryz.prog w = .ok (156, p) w := by kernel_rfl
theorem meth_c130 (p : Value) (w : World) : (mcode 133 p).run Tryz.prog w = .ok (159, p) w := by kernel_rfl
theorem exec_inv {o : Oper} {a : Act} (x y : Operand) (T : TypeId) (q v : Value) (fn : FuncId) (ts : Array TypeId) (hm : ∀ w, (mcode T q).run Tryz.prog w = .ok (fn, q) w) (he : ∀ args w, (callFunc fn args).run Tryz.prog w = .ok (.enter fn args) w) (ho : o.op = Op.call { callee := .invoke x "loop.example/s02135/impl.code", args := #[y], argTypes := ts }) (hx : a.eval x = .iface T q) (hy : a.eval y = v) (w : World) : (execOp a.eval o).run Tryz.prog w = .ok (.enter fn #[q, v]) w := by
  have hm' : ∀ w, (method (192 + Made.depth) T q "loop.example/s02135/impl.code").run Tryz.prog w = .ok (fn, q) w := hm
  simp [execOp, ho, hx, hy, resolve, invoke, callMethod, hm', he, Result.andThen]
theorem exec_f119_0 {o : Oper} {a : Act} (x : Operand) (b : Nat) (ho : o.op = Op.fieldAddr 135 x 0) (hx : a.eval x = .pointer (some ⟨b, 0, none⟩)) (w : World) : (execOp a.eval o).run Tryz.prog w = .ok (.value (.pointer (some ⟨b, 0, none⟩))) w := by
  simp only [execOp, ho, hx]
  go_simp
theorem exec_f119_1 {o : Oper} {a : Act} (x : Operand) (b : Nat) (ho : o.op = Op.fieldAddr 135 x 1) (hx : a.eval x = .pointer (some ⟨b, 0, none⟩)) (w : World) : (execOp a.eval o).run Tryz.prog w = .ok (.value (.pointer (some ⟨b, 4, none⟩))) w := by
  simp only [execOp, ho, hx]
  go_simp
theorem exec_f121_0 {o : Oper} {a : Act} (x : Operand) (b : Nat) (ho : o.op = Op.fieldAddr 138 x 0) (hx : a.eval x = .pointer (some ⟨b, 0, none⟩)) (w : World) : (execOp a.eval o).run Tryz.prog w = .ok (.value (.pointer (some ⟨b, 0, none⟩))) w := by
  simp only [execOp, ho, hx]
  go_simp
theorem exec_f121_1 {o : Oper} {a : Act} (x : Operand) (b : Nat) (ho : o.op = Op.fieldAddr 138 x 1) (hx : a.eval x = .pointer (some ⟨b, 0, none⟩)) (w : World) : (execOp a.eval o).run Tryz.prog w = .ok (.value (.pointer (some ⟨b, 1, none⟩))) w := by
  simp only [execOp, ho, hx]
  go_simp
theorem exec_f121_2 {o : Oper} {a : Act} (x : Operand) (b : Nat) (ho : o.op = Op.fieldAddr 138 x 2) (hx : a.eval x = .pointer (some ⟨b, 0, none⟩)) (w : World) : (execOp a.eval o).run Tryz.prog w = .ok (.value (.pointer (some ⟨b, 5, none⟩))) w := by
  simp only [execOp, ho, hx]
  go_simp
theorem exec_load106 {o : Oper} {a : Act} (x : Operand) (b j : Nat) (T : TypeId) (q : Value) (w : World) (ho : o.op = Op.load 115 x) (hx : a.eval x = .pointer (some ⟨b, j, none⟩)) (d : w.cell? ⟨b, j, none⟩ = some (.iface T q)) : (execOp a.eval o).run Tryz.prog w = .ok (.value (.iface T q)) w := by
  simp only [execOp, ho, hx]
  go_simp
theorem exec_load79j {o : Oper} {a : Act} (x : Operand) (b j : Nat) (k p q : Int) (s : ByteArray) (w : World) (ho : o.op = Op.load 38 x) (hx : a.eval x = .pointer (some ⟨b, j, none⟩)) (d0 : w.cell? ⟨b, j, none⟩ = some (.int .i64 k)) (d1 : w.cell? ⟨b, j + 1, none⟩ = some (.int .i64 p)) (d2 : w.cell? ⟨b, j + 2, none⟩ = some (.int .i64 q)) (d3 : w.cell? ⟨b, j + 3, none⟩ = some (.string s)) :
    (execOp a.eval o).run Tryz.prog w = .ok (.value (.agg #[.int .i64 k, .int .i64 p, .int .i64 q, .string s])) w := by
  have z := Tryz.sizeOf38
  have g := Tryz.isAgg38
  simp only [execOp, ho, hx]
  go_simp
theorem exec_nilc {o : Oper} {a : Act} (x : Operand) (T : TypeId) (q : Value) (w : World) (ho : o.op = Op.nilCheck x) (hx : a.eval x = .iface T q) : (execOp a.eval o).run Tryz.prog w = .ok (.value (.iface T q)) w := by
  simp [execOp, ho, hx]
theorem exec_build81k {o : Oper} {a : Act} (c y : Operand) (k fk fa fb : Int) (fn : ByteArray) (ho : o.op = Op.build 40 #[(0, c), (3, y)]) (hc : a.eval c = .int .i64 k) (hy : a.eval y = .agg #[.int .i64 fk, .int .i64 fa, .int .i64 fb, .string fn]) (w : World) : (execOp a.eval o).run Tryz.prog w = .ok (.value (.agg #[.int .i64 k, .slice none 0 0, .string ⟨#[]⟩, .int .i64 fk, .int .i64 fa, .int .i64 fb, .string fn])) w := by
  simp [execOp, ho, hc, hy]
  go_simp
theorem exec_bs34k {o : Oper} {a : Act} (x : Operand) (k fk fa fb : Int) (fn : ByteArray) (ho : o.op = Op.buildSlice 41 1 #[(0, x)]) (hx : a.eval x = .agg #[.int .i64 k, .slice none 0 0, .string ⟨#[]⟩, .int .i64 fk, .int .i64 fa, .int .i64 fb, .string fn]) (w : World) : (execOp a.eval o).run Tryz.prog w = .ok (.value (.slice (some ⟨w.heap.size, 0, none⟩) 1 1)) (w.alloc (.cells #[.int .i64 k, .slice none 0 0, .string ⟨#[]⟩, .int .i64 fk, .int .i64 fa, .int .i64 fb, .string fn] 40)) := by
  simp [execOp, ho, hx]
  go_simp
/-- a call or a value may come next -/
theorem step_cv {P : Program} {md : Region.Mode} {ops : Array Oper} {Q : Exit → Act → World → Prop} {S : World → Prop} {fuel : Nat} {listed : Array Bool} {i j : Nat} {o o2 : Oper} {a : Act} {w w2 : World} (hr : Region.ready md ops listed = [i, j]) (ho : ops[i]? = some o) (hg : o.guard = none) (f : FuncId) (args : Array Value) (h : (execOp a.eval o).run P w = .ok (.enter f args) w)
    (ho2 : ops[j]? = some o2) (hg2 : o2.guard = none) (v2 : Value) (h2 : (execOp a.eval o2).run P w = .ok (.value v2) w2) (hS2 : S w2)
    (hN : Calls P f args w fun e w' => ∃ v, e = .returned v ∧ S w' ∧ wpAnyH P md ops Q S fuel (listed.setIfInBounds i true) (a.put o.dst v) w') (hN2 : wpAnyH P md ops Q S fuel (listed.setIfInBounds j true) (a.put o2.dst v2) w2) : wpAnyH P md ops Q S (fuel + 1) listed a w :=
  wpAnyH_ready hr (by simp) (AllReadyH.cons ho (fun K hK => ready_callq hg f args h (hN.mono (by
    rintro e w' ⟨v, rfl, hS, hW⟩
    exact ⟨v, rfl, hK.out _ _ hS (fun _ => hW)⟩))) (AllReadyH.cons ho2 (fun K hK => ready_valq hg2 v2 h2 (hK.out _ _ hS2 (fun _ => hN2))) AllReadyH.nil))
/-- the contract of a node's code method -/
def CdC (c : List Pl.Sv) (N : World → Value → List Nat → Prop) (v : Value) (F : List Nat) : Prop := ∃ T q fn, v = .iface T q ∧ (∀ w, (mcode T q).run Tryz.prog w = .ok (fn, q) w) ∧ (∀ args w, (callFunc fn args).run Tryz.prog w = .ok (.enter fn args) w) ∧
  ∀ (X : World) (B : Nat) (sv : Value) (c0 : List Pl.Sv) (F0 : List Nat), N X v F → OwS X sv c0 F0 → Inb B X F0 → Inb B X F → (∀ x ∈ F, x ∉ F0) → c0.length + c.length ≤ 16777216 → B ≤ X.heap.size →
    Calls Tryz.prog fn #[q, sv] X fun e w' => ∃ v' F', e = .returned v' ∧ CdR X w' B sv v' (c0 ++ c) F0 F F'
/-- the cells of a node of one -/
structure S1 (p : Nat) (f : Pl.Fnv) (vr : Value) (W : World) : Prop where
  lt : p < W.heap.size
  c0 : W.cell? ⟨p, 0, none⟩ = some (.int .i64 f.k)
  c1 : W.cell? ⟨p, 1, none⟩ = some (.int .i64 f.a)
  c2 : W.cell? ⟨p, 2, none⟩ = some (.int .i64 f.b)
  c3 : W.cell? ⟨p, 3, none⟩ = some (.string (Pl.ba f.nm))
  c4 : W.cell? ⟨p, 4, none⟩ = some vr
theorem S1.same {p : Nat} {f : Pl.Fnv} {vr : Value} {W W' : World} (h : S1 p f vr W) (hp : W'.heap[p]? = W.heap[p]?) (hs : W.heap.size ≤ W'.heap.size) : S1 p f vr W' := by
  have g (j : Nat) : W'.cell? ⟨p, j, none⟩ = W.cell? ⟨p, j, none⟩ := World.cell?_of_block hp
  exact ⟨Nat.lt_of_lt_of_le h.lt hs, (g 0).trans h.c0, (g 1).trans h.c1, (g 2).trans h.c2, (g 3).trans h.c3, (g 4).trans h.c4⟩
theorem S1.alloc {p : Nat} {f : Pl.Fnv} {vr : Value} {W : World} (h : S1 p f vr W) (o : Obj) : S1 p f vr (W.alloc o) := h.same (Below.heap_alloc _ _ _ h.lt) (by simp)
theorem S1.cdr {p : Nat} {f : Pl.Fnv} {vr : Value} {W W' : World} {B : Nat} {sv v' : Value} {c : List Pl.Sv} {F0 F F' : List Nat} (h : S1 p f vr W) (hc : CdR W W' B sv v' c F0 F F') (hp : sv.ownBlock ≠ some p) : S1 p f vr W' := h.same (hc.g.block _ h.lt (fun e => hp e.symm)) hc.g.size
/-- the record of a step, in cells -/
abbrev recK (k : Int) (f : Pl.Fnv) : List Value := [.int .i64 k, .slice none 0 0, .string ⟨#[]⟩, .int .i64 f.k, .int .i64 f.a, .int .i64 f.b, .string (Pl.ba f.nm)]
theorem qsK (w : World) (k : Int) (f : Pl.Fnv) : Qs w (recK k f) ⟨k, [], [], f⟩ [] := ⟨_, rfl, Own.nil _⟩
/-- the last append of a node -/
theorem last_k {w X : World} {B : Nat} {sv v1 : Value} {c1 : List Pl.Sv} {F0 F1 Fa : List Nat} {k : Int} {f : Pl.Fnv} {q : Nat} (h : CdR w X B sv v1 c1 F0 F1 Fa) (hc : ∀ j u, (recK k f)[j]? = some u → X.cell? ⟨q, 0 + j, none⟩ = some u) (hbd : c1.length + 1 ≤ 16777216) (hB : B ≤ X.heap.size) (ty : TypeId) :
    ∃ v' w' F', (Builtin.append_ #[41, 41] ty #[v1, .slice (some ⟨q, 0, none⟩) 1 1]).run Tryz.prog X = .ok v' w' ∧ CdR w w' B sv v' (c1 ++ [⟨k, [], [], f⟩]) F0 F1 F' ∧ X.grownBy w' v1.ownBlock := by
  obtain ⟨v', w', F', hr, hx⟩ := OwS.more h.o h.i (qsK X k f) (Inb.nil _ _) List.nodup_nil (by simp) hc hbd hB (cap := 1) ty
  exact ⟨v', w', F', hr, (h.trans hx).mem rfl (fun x hx => .inl (by simpa using hx)), hx.g⟩
theorem CdR.keepb {w w' : World} {B : Nat} {sv v' : Value} {c : List Pl.Sv} {F0 F F' : List Nat} {p : Nat} (h : CdR w w' B sv v' c F0 F F') (hp : p < w.heap.size) (hn : sv.ownBlock ≠ some p) : w'.heap[p]? = w.heap[p]? := h.g.block _ hp (fun e => hn e.symm)
theorem CdR.notown {w w' : World} {B : Nat} {sv v' : Value} {c : List Pl.Sv} {F0 F F' : List Nat} {p : Nat} (h : CdR w w' B sv v' c F0 F F') (hp : p < w.heap.size) (hn : sv.ownBlock ≠ some p) : v'.ownBlock ≠ some p := fun e => by
  rcases h.b p e with r | r
  · exact hn r
  · omega
/-- a node's code is called behind another one's -/
theorem runC {c : List Pl.Sv} {N : World → Value → List Nat → Prop} {v q : Value} {fn : FuncId} {F : List Nat}
    (hC : ∀ (X : World) (B : Nat) (sv : Value) (c0 : List Pl.Sv) (F0 : List Nat), N X v F → OwS X sv c0 F0 → Inb B X F0 → Inb B X F → (∀ x ∈ F, x ∉ F0) → c0.length + c.length ≤ 16777216 → B ≤ X.heap.size → Calls Tryz.prog fn #[q, sv] X fun e w' => ∃ v' F', e = .returned v' ∧ CdR X w' B sv v' (c0 ++ c) F0 F F')
    (hup : ∀ w w' : World, (∀ b ∈ F, w'.heap[b]? = w.heap[b]?) → N w v F → N w' v F)
    {w W : World} {B : Nat} {sv v1 : Value} {c0 c1 : List Pl.Sv} {F0 G Fa : List Nat} (h : CdR w W B sv v1 c1 F0 G Fa) (hN : N w v F) (hS : OwS w sv c0 F0) (hF : Inb B w F) (hd : ∀ x ∈ F, x ∉ F0) (hG : ∀ x ∈ F, x ∉ G) (hbd : c1.length + c.length ≤ 16777216) (hB : B ≤ w.heap.size) :
    Calls Tryz.prog fn #[q, v1] W fun e w' => ∃ v' F', e = .returned v' ∧ CdR W w' B v1 v' (c1 ++ c) Fa F F' :=
  hC W B v1 c1 Fa (hup w W (fun b hb => h.g.block b (hF b hb).2 (fun e => hd b hb ((hS.lt b e.symm).1))) hN) h.o h.i (hF.up (Nat.le_refl _) h.g.size) (fun x hx hm => by
    rcases h.f x hm with r | r | r
    · exact hd x hx r
    · exact hG x hx r
    · have := (hF x hx).2; omega) hbd (by have := h.g.size; omega)
/-- the cells of a node of two -/
structure S2 (p : Nat) (f : Pl.Fnv) (vl vr : Value) (W : World) : Prop where
  lt : p < W.heap.size
  c0 : W.cell? ⟨p, 0, none⟩ = some vl
  c1 : W.cell? ⟨p, 1, none⟩ = some (.int .i64 f.k)
  c2 : W.cell? ⟨p, 2, none⟩ = some (.int .i64 f.a)
  c3 : W.cell? ⟨p, 3, none⟩ = some (.int .i64 f.b)
  c4 : W.cell? ⟨p, 4, none⟩ = some (.string (Pl.ba f.nm))
  c5 : W.cell? ⟨p, 5, none⟩ = some vr
theorem S2.same {p : Nat} {f : Pl.Fnv} {vl vr : Value} {W W' : World} (h : S2 p f vl vr W) (hp : W'.heap[p]? = W.heap[p]?) (hs : W.heap.size ≤ W'.heap.size) : S2 p f vl vr W' := by
  have g (j : Nat) : W'.cell? ⟨p, j, none⟩ = W.cell? ⟨p, j, none⟩ := World.cell?_of_block hp
  exact ⟨Nat.lt_of_lt_of_le h.lt hs, (g 0).trans h.c0, (g 1).trans h.c1, (g 2).trans h.c2, (g 3).trans h.c3, (g 4).trans h.c4, (g 5).trans h.c5⟩
theorem S2.alloc {p : Nat} {f : Pl.Fnv} {vl vr : Value} {W : World} (h : S2 p f vl vr W) (o : Obj) : S2 p f vl vr (W.alloc o) := h.same (Below.heap_alloc _ _ _ h.lt) (by simp)
theorem S2.cdr {p : Nat} {f : Pl.Fnv} {vl vr : Value} {W W' : World} {B : Nat} {sv v' : Value} {c : List Pl.Sv} {F0 F F' : List Nat} (h : S2 p f vl vr W) (hc : CdR W W' B sv v' c F0 F F') (hp : sv.ownBlock ≠ some p) : S2 p f vl vr W' := h.same (hc.g.block _ h.lt (fun e => hp e.symm)) hc.g.size
abbrev objK (k : Int) (f : Pl.Fnv) : Obj := .cells #[.int .i64 k, .slice none 0 0, .string ⟨#[]⟩, .int .i64 f.k, .int .i64 f.a, .int .i64 f.b, .string (Pl.ba f.nm)] 40
theorem recK_new (w : World) (k : Int) (f : Pl.Fnv) : ∀ j u, (recK k f)[j]? = some u → (w.alloc (objK k f)).cell? ⟨w.heap.size, 0 + j, none⟩ = some u := cells_new (l := recK k f) (by simp)
theorem recK_keep {w w' : World} {k : Int} {f : Pl.Fnv} {p : Nat} (h : ∀ j u, (recK k f)[j]? = some u → w.cell? ⟨p, 0 + j, none⟩ = some u) (hk : w'.heap[p]? = w.heap[p]?) : ∀ j u, (recK k f)[j]? = some u → w'.cell? ⟨p, 0 + j, none⟩ = some u := fun j u hj => (World.cell?_of_block (a := ⟨p, 0 + j, none⟩) hk).trans (h j u hj)
/-- (impl.oneNode).code -/
theorem code_one (f : Pl.Fnv) (vr : Value) (cr : List Pl.Sv) (N : World → Value → List Nat → Prop) (F : List Nat) (hk : CdC cr N vr F) (hup : ∀ w w' : World, (∀ b ∈ F, w'.heap[b]? = w.heap[b]?) → N w vr F → N w' vr F)
    (X : World) (B : Nat) (sv : Value) (c0 : List Pl.Sv) (F0 : List Nat) (hN : N X vr F) (hS : OwS X sv c0 F0) (hF0 : Inb B X F0) (hF : Inb B X F) (hd : ∀ x ∈ F, x ∉ F0) (hbd : c0.length + (cr.length + 1) ≤ 16777216) (hB : B ≤ X.heap.size) :
    Calls Tryz.prog 162 #[.agg #[.int .i64 f.k, .int .i64 f.a, .int .i64 f.b, .string (Pl.ba f.nm), vr], sv] X fun e w' => ∃ v' F', e = .returned v' ∧ CdR X w' B sv v' (c0 ++ (cr ++ [⟨3, [], [], f⟩])) F0 F F' := by
  obtain ⟨T, q, fn, rfl, hm, he, hC⟩ := hk
  obtain ⟨ao0, cap0, rfl⟩ := hS.slice
  generalize hcl : c0.length = cl at hbd ⊢
  rw [hcl] at hS
  have BB : Below X.heap.size X (X.alloc (.cells #[.int .i64 f.k, .int .i64 f.a, .int .i64 f.b, .string (Pl.ba f.nm), .iface T q] 135)).drew := ((Below.refl _ _).alloc (Nat.le_refl _) _).drew
  have S0 : Hid (S1 X.heap.size f (.iface T q) (X.alloc (.cells #[.int .i64 f.k, .int .i64 f.a, .int .i64 f.b, .string (Pl.ba f.nm), .iface T q] 135)).drew) := ⟨by simp, by simp [go_sem], by simp [go_sem], by simp [go_sem], by simp [go_sem], by simp [go_sem]⟩
  have hnb : ∀ b, (.slice ao0 cl cap0 : Value).ownBlock = some b → b < X.heap.size := fun b hb => (hF0 b (hS.lt b hb).1).2
  have HNB := hideP hnb
  have HS0 := hideP (hS.below Qs.lives hF0 BB (Nat.le_refl _))
  have HI0 := hideP (hF0.up (Nat.le_refl _) BB.size)
  have HF := hideP (hF.up (Nat.le_refl _) BB.size)
  have HN0 := hideP (hup X _ (fun b hb => BB.block b (hF b hb).2) hN)
  have HD := hideP hd
  have HC := hideP hC
  have HUP := hideP hup
  have HB := hideP (Nat.le_trans hB BB.size)
  have HM := hideP hm
  have HE := hideP he
  have HBB := hideP BB
  clear BB hnb hS hF0 hF hN hd hC hup hB hm he
  go_enter Tryz.func162, Tryz.ntmps162
  go_wp2_with fail
  refine wp_region_held (S := fun W => S1 X.heap.size f (.iface T q) W) (by kernel_rfl) ?_
  change wpAnyH _ _ _ _ _ _ _ _ (World.drew _)
  generalize (X.alloc (.cells #[.int .i64 f.k, .int .i64 f.a, .int .i64 f.b, .string (Pl.ba f.nm), .iface T q] 135)).drew = W0 at *
  have CR : Hid (CdR W0 W0 B (.slice ao0 cl cap0) (.slice ao0 cl cap0) c0 F0 [] F0) := CdR.refl HS0.out HI0.out
  have hpp : (.slice ao0 cl cap0 : Value).ownBlock ≠ some X.heap.size := fun e => Nat.lt_irrefl _ (HNB.out _ e)
  have HPP := hideP hpp
  have hpw : (.slice ao0 cl cap0 : Value).ownBlock ≠ some W0.heap.size := fun e => by have := HNB.out _ e; have := HBB.out.size; omega
  have HPW := hideP hpw
  clear hpp hpw
  refine wpAnyH_take (i := 0) (v := .pointer (some ⟨X.heap.size, 4, none⟩)) rfl (by kernel_rfl) (by kernel_rfl) (by kernel_rfl) (fun _ _ _ h => h) (Or.inl ⟨by rfl, fun W hW => exec_f119_1 (.tmp 2) X.heap.size rfl (by kernel_rfl) W⟩) S0.out ?_
  refine wpAnyH_take (i := 1) (v := .iface T q) rfl (by kernel_rfl) (by kernel_rfl) (by kernel_rfl) (fun _ _ _ h => h) (Or.inl ⟨by rfl, fun W hW => exec_load106 (.tmp 5) X.heap.size 4 T q W rfl (by kernel_rfl) hW.c4⟩) S0.out ?_
  refine wpAnyH_take (i := 2) (v := .slice ao0 cl cap0) rfl (by kernel_rfl) (by kernel_rfl) (by kernel_rfl) (fun _ _ _ h => h) (Or.inl ⟨by rfl, fun W hW => exec_moveq (.tmp 1) (.slice ao0 cl cap0) rfl (by kernel_rfl) W⟩) S0.out ?_
  refine wpAnyH_take (i := 4) (v := .pointer (some ⟨X.heap.size, 0, none⟩)) rfl (by kernel_rfl) (by kernel_rfl) (by kernel_rfl) (fun _ _ _ h => h) (Or.inl ⟨by rfl, fun W hW => exec_f119_0 (.tmp 2) X.heap.size rfl (by kernel_rfl) W⟩) S0.out ?_
  refine wpAnyH_take (i := 5) (v := .agg #[.int .i64 f.k, .int .i64 f.a, .int .i64 f.b, .string (Pl.ba f.nm)]) rfl (by kernel_rfl) (by kernel_rfl) (by kernel_rfl) (fun _ _ _ h => h) (Or.inl ⟨by rfl, fun W hW => exec_load79j (.tmp 9) X.heap.size 0 f.k f.a f.b (Pl.ba f.nm) W rfl (by kernel_rfl) hW.c0 hW.c1 hW.c2 hW.c3⟩) S0.out ?_
  refine wpAnyH_take (i := 6) (v := .agg #[.int .i64 3, .slice none 0 0, .string ⟨#[]⟩, .int .i64 f.k, .int .i64 f.a, .int .i64 f.b, .string (Pl.ba f.nm)]) rfl (by kernel_rfl) (by kernel_rfl) (by kernel_rfl) (fun _ _ _ h => h) (Or.inl ⟨by rfl, fun W hW => exec_build81k (.const (.int .i64 3)) (.tmp 10) 3 f.k f.a f.b (Pl.ba f.nm) rfl rfl (by kernel_rfl) W⟩) S0.out ?_
  refine step_cv (i := 3) (j := 7) (by kernel_rfl) rfl rfl fn #[q, .slice ao0 cl cap0] (exec_inv (.tmp 6) (.tmp 7) T q _ fn _ HM.out HE.out rfl (by kernel_rfl) (by kernel_rfl) W0) rfl rfl (.slice (some ⟨W0.heap.size, 0, none⟩) 1 1) (exec_bs34k (.tmp 11) 3 f.k f.a f.b (Pl.ba f.nm) rfl (by kernel_rfl) W0) (S0.out.alloc _) ?_ ?_
  · refine Calls.mono (runC HC.out HUP.out CR.out HN0.out HS0.out HF.out HD.out (by simp) (by omega) HB.out) ?_
    rintro e w1 ⟨v1, Fa, rfl, h1⟩
    have SA : Hid (S1 X.heap.size f (.iface T q) w1) := S0.out.cdr h1 HPP.out
    refine ⟨v1, rfl, SA.out, ?_⟩
    have H1 := hideP h1
    have hz := h1.g.size
    clear h1
    refine step_valq (i := 7) (by kernel_rfl) rfl rfl (.slice (some ⟨w1.heap.size, 0, none⟩) 1 1) (exec_bs34k (.tmp 11) 3 f.k f.a f.b (Pl.ba f.nm) rfl (by kernel_rfl) w1) (SA.out.alloc _) ?_
    obtain ⟨v9, w9, F9, hr9, h9, g9⟩ := last_k (H1.out.alloc (objK 3 f)) (recK_new w1 3 f) (by simp; omega) (by have := HB.out; simp; omega) 41
    have hn9 : v1.ownBlock ≠ some X.heap.size := H1.out.notown S0.out.lt HPP.out
    have S9 : Hid (S1 X.heap.size f (.iface T q) w9) := (SA.out.alloc (objK 3 f)).same (g9.block _ (SA.out.alloc _).lt (fun e => hn9 e.symm)) g9.size
    refine step_valq (i := 8) (by kernel_rfl) rfl rfl v9 (exec_app34 (.tmp 8) (.tmp 12) v1 (.slice (some ⟨w1.heap.size, 0, none⟩) 1 1) v9 _ w9 rfl (by kernel_rfl) (by kernel_rfl) hr9) S9.out ?_
    refine step_valq (i := 9) (by kernel_rfl) rfl rfl v9 (exec_assignq (.tmp 13) v9 rfl (by kernel_rfl) w9) S9.out ?_
    refine wpAnyH_done (by kernel_rfl) ?_ _
    have hone := h9.o.one
    have H9 := hideP ((h9.from_ HBB.out).mem (List.append_assoc _ _ _) (fun x hx => .inl hx))
    clear h9 g9 hn9 S9 SA H1 hr9
    go_wp2_with fail
    refine bodyPost_ret (v := v9) (by simp [results, Tryz.results162, go_sem]) rfl ⟨v9, F9, rfl, H9.out⟩
  · have HKB := hideP (recK_new W0 3 f)
    refine step_callq (i := 3) (by kernel_rfl) rfl rfl fn #[q, .slice ao0 cl cap0] (exec_inv (.tmp 6) (.tmp 7) T q _ fn _ HM.out HE.out rfl (by kernel_rfl) (by kernel_rfl) _) ?_
    refine Calls.mono (runC HC.out HUP.out (CR.out.alloc (objK 3 f)) HN0.out HS0.out HF.out HD.out (by simp) (by omega) HB.out) ?_
    rintro e w1 ⟨v1, Fa, rfl, h1⟩
    have SA : Hid (S1 X.heap.size f (.iface T q) w1) := (S0.out.alloc (objK 3 f)).cdr h1 HPP.out
    refine ⟨v1, rfl, SA.out, ?_⟩
    have hz := h1.g.size
    have hrc := recK_keep HKB.out (h1.keepb (by simp) HPW.out)
    obtain ⟨v9, w9, F9, hr9, h9, g9⟩ := last_k h1 hrc (by simp; omega) (by have := HB.out; simp at hz; omega) 41
    have hn9 : v1.ownBlock ≠ some X.heap.size := h1.notown (S0.out.alloc _).lt HPP.out
    have S9 : Hid (S1 X.heap.size f (.iface T q) w9) := SA.out.same (g9.block _ SA.out.lt (fun e => hn9 e.symm)) g9.size
    refine step_valq (i := 8) (by kernel_rfl) rfl rfl v9 (exec_app34 (.tmp 8) (.tmp 12) v1 (.slice (some ⟨W0.heap.size, 0, none⟩) 1 1) v9 _ w9 rfl (by kernel_rfl) (by kernel_rfl) hr9) S9.out ?_
    refine step_valq (i := 9) (by kernel_rfl) rfl rfl v9 (exec_assignq (.tmp 13) v9 rfl (by kernel_rfl) w9) S9.out ?_
    refine wpAnyH_done (by kernel_rfl) ?_ _
    have hone := h9.o.one
    have H9 := hideP ((h9.from_ (HBB.out.alloc HBB.out.size (objK 3 f))).mem (List.append_assoc _ _ _) (fun x hx => .inl hx))
    clear h9 g9 hn9 S9 SA h1 hr9 hrc hz HKB
    go_wp2_with fail
    refine bodyPost_ret (v := v9) (by simp [results, Tryz.results162, go_sem]) rfl ⟨v9, F9, rfl, H9.out⟩
/-- (impl.twoNode).code -/
theorem code_two (f : Pl.Fnv) (vl vr : Value) (c1 c2 : List Pl.Sv) (N1 N2 : World → Value → List Nat → Prop) (F1 F2 : List Nat) (hk1 : CdC c1 N1 vl F1) (hk2 : CdC c2 N2 vr F2) (hup1 : ∀ w w' : World, (∀ b ∈ F1, w'.heap[b]? = w.heap[b]?) → N1 w vl F1 → N1 w' vl F1) (hup2 : ∀ w w' : World, (∀ b ∈ F2, w'.heap[b]? = w.heap[b]?) → N2 w vr F2 → N2 w' vr F2)
    (X : World) (B : Nat) (sv : Value) (c0 : List Pl.Sv) (F0 : List Nat) (hN1 : N1 X vl F1) (hN2 : N2 X vr F2) (hS : OwS X sv c0 F0) (hF0 : Inb B X F0) (hF1 : Inb B X F1) (hF2 : Inb B X F2) (hd1 : ∀ x ∈ F1, x ∉ F0) (hd2 : ∀ x ∈ F2, x ∉ F0) (h12 : ∀ x ∈ F1, x ∉ F2) (hbd : c0.length + (c2.length + (c1.length + 1)) ≤ 16777216) (hB : B ≤ X.heap.size) :
    Calls Tryz.prog 165 #[.agg #[vl, .int .i64 f.k, .int .i64 f.a, .int .i64 f.b, .string (Pl.ba f.nm), vr], sv] X fun e w' => ∃ v' F', e = .returned v' ∧ CdR X w' B sv v' (c0 ++ (c2 ++ (c1 ++ [⟨4, [], [], f⟩]))) F0 (F2 ++ F1) F' := by
  obtain ⟨T1, q1, fn1, rfl, hm1, he1, hC1⟩ := hk1
  obtain ⟨T2, q2, fn2, rfl, hm2, he2, hC2⟩ := hk2
  obtain ⟨ao0, cap0, rfl⟩ := hS.slice
  generalize hcl : c0.length = cl at hbd ⊢
  rw [hcl] at hS
  have BB : Below X.heap.size X (X.alloc (.cells #[.iface T1 q1, .int .i64 f.k, .int .i64 f.a, .int .i64 f.b, .string (Pl.ba f.nm), .iface T2 q2] 138)).drew := ((Below.refl _ _).alloc (Nat.le_refl _) _).drew
  have S0 : Hid (S2 X.heap.size f (.iface T1 q1) (.iface T2 q2) (X.alloc (.cells #[.iface T1 q1, .int .i64 f.k, .int .i64 f.a, .int .i64 f.b, .string (Pl.ba f.nm), .iface T2 q2] 138)).drew) := ⟨by simp, by simp [go_sem], by simp [go_sem], by simp [go_sem], by simp [go_sem], by simp [go_sem], by simp [go_sem]⟩
  have HNB := hideP (fun (b : Nat) (hb : (.slice ao0 cl cap0 : Value).ownBlock = some b) => (hF0 b (hS.lt b hb).1).2)
  have HS0 := hideP (hS.below Qs.lives hF0 BB (Nat.le_refl _))
  have HI0 := hideP (hF0.up (Nat.le_refl _) BB.size)
  have HF1 := hideP (hF1.up (Nat.le_refl _) BB.size)
  have HF2 := hideP (hF2.up (Nat.le_refl _) BB.size)
  have HN1 := hideP (hup1 X _ (fun b hb => BB.block b (hF1 b hb).2) hN1)
  have HN2 := hideP (hup2 X _ (fun b hb => BB.block b (hF2 b hb).2) hN2)
  have HD1 := hideP hd1
  have HD2 := hideP hd2
  have H12 := hideP h12
  have HC1 := hideP hC1
  have HC2 := hideP hC2
  have HUP1 := hideP hup1
  have HUP2 := hideP hup2
  have HB := hideP (Nat.le_trans hB BB.size)
  have HM1 := hideP hm1
  have HE1 := hideP he1
  have HM2 := hideP hm2
  have HE2 := hideP he2
  have HBB := hideP BB
  clear BB hS hF0 hF1 hF2 hN1 hN2 hd1 hd2 h12 hC1 hC2 hup1 hup2 hB hm1 he1 hm2 he2
  go_enter Tryz.func165, Tryz.ntmps165
  go_wp2_with fail
  refine wp_region_held (S := fun W => S2 X.heap.size f (.iface T1 q1) (.iface T2 q2) W) (by kernel_rfl) ?_
  change wpAnyH _ _ _ _ _ _ _ _ (World.drew _)
  generalize (X.alloc (.cells #[.iface T1 q1, .int .i64 f.k, .int .i64 f.a, .int .i64 f.b, .string (Pl.ba f.nm), .iface T2 q2] 138)).drew = W0 at *
  have CR : Hid (CdR W0 W0 B (.slice ao0 cl cap0) (.slice ao0 cl cap0) c0 F0 [] F0) := CdR.refl HS0.out HI0.out
  have HPP := hideP (show (.slice ao0 cl cap0 : Value).ownBlock ≠ some X.heap.size from fun e => Nat.lt_irrefl _ (HNB.out _ e))
  have HPW := hideP (show (.slice ao0 cl cap0 : Value).ownBlock ≠ some W0.heap.size from fun e => by have := HNB.out _ e; have := HBB.out.size; omega)
  refine wpAnyH_take (i := 0) (v := .pointer (some ⟨X.heap.size, 0, none⟩)) rfl (by kernel_rfl) (by kernel_rfl) (by kernel_rfl) (fun _ _ _ h => h) (Or.inl ⟨by rfl, fun W hW => exec_f121_0 (.tmp 2) X.heap.size rfl (by kernel_rfl) W⟩) S0.out ?_
  refine wpAnyH_take (i := 1) (v := .iface T1 q1) rfl (by kernel_rfl) (by kernel_rfl) (by kernel_rfl) (fun _ _ _ h => h) (Or.inl ⟨by rfl, fun W hW => exec_load106 (.tmp 5) X.heap.size 0 T1 q1 W rfl (by kernel_rfl) hW.c0⟩) S0.out ?_
  refine wpAnyH_take (i := 2) (v := .pointer (some ⟨X.heap.size, 5, none⟩)) rfl (by kernel_rfl) (by kernel_rfl) (by kernel_rfl) (fun _ _ _ h => h) (Or.inl ⟨by rfl, fun W hW => exec_f121_2 (.tmp 2) X.heap.size rfl (by kernel_rfl) W⟩) S0.out ?_
  refine wpAnyH_take (i := 3) (v := .iface T2 q2) rfl (by kernel_rfl) (by kernel_rfl) (by kernel_rfl) (fun _ _ _ h => h) (Or.inl ⟨by rfl, fun W hW => exec_load106 (.tmp 7) X.heap.size 5 T2 q2 W rfl (by kernel_rfl) hW.c5⟩) S0.out ?_
  refine wpAnyH_take (i := 4) (v := .slice ao0 cl cap0) rfl (by kernel_rfl) (by kernel_rfl) (by kernel_rfl) (fun _ _ _ h => h) (Or.inl ⟨by rfl, fun W hW => exec_moveq (.tmp 1) (.slice ao0 cl cap0) rfl (by kernel_rfl) W⟩) S0.out ?_
  refine wpAnyH_take (i := 6) (v := .iface T1 q1) rfl (by kernel_rfl) (by kernel_rfl) (by kernel_rfl) (fun _ _ _ h => h) (Or.inl ⟨by rfl, fun W hW => exec_nilc (.tmp 6) T1 q1 W rfl (by kernel_rfl)⟩) S0.out ?_
  refine wpAnyH_take (i := 7) (v := .iface T1 q1) rfl (by kernel_rfl) (by kernel_rfl) (by kernel_rfl) (fun _ _ _ h => h) (Or.inl ⟨by rfl, fun W hW => exec_moveq (.tmp 6) (.iface T1 q1) rfl (by kernel_rfl) W⟩) S0.out ?_
  refine wpAnyH_take (i := 9) (v := .pointer (some ⟨X.heap.size, 1, none⟩)) rfl (by kernel_rfl) (by kernel_rfl) (by kernel_rfl) (fun _ _ _ h => h) (Or.inl ⟨by rfl, fun W hW => exec_f121_1 (.tmp 2) X.heap.size rfl (by kernel_rfl) W⟩) S0.out ?_
  refine wpAnyH_take (i := 10) (v := .agg #[.int .i64 f.k, .int .i64 f.a, .int .i64 f.b, .string (Pl.ba f.nm)]) rfl (by kernel_rfl) (by kernel_rfl) (by kernel_rfl) (fun _ _ _ h => h) (Or.inl ⟨by rfl, fun W hW => exec_load79j (.tmp 14) X.heap.size 1 f.k f.a f.b (Pl.ba f.nm) W rfl (by kernel_rfl) hW.c1 hW.c2 hW.c3 hW.c4⟩) S0.out ?_
  refine wpAnyH_take (i := 11) (v := .agg #[.int .i64 4, .slice none 0 0, .string ⟨#[]⟩, .int .i64 f.k, .int .i64 f.a, .int .i64 f.b, .string (Pl.ba f.nm)]) rfl (by kernel_rfl) (by kernel_rfl) (by kernel_rfl) (fun _ _ _ h => h) (Or.inl ⟨by rfl, fun W hW => exec_build81k (.const (.int .i64 4)) (.tmp 15) 4 f.k f.a f.b (Pl.ba f.nm) rfl rfl (by kernel_rfl) W⟩) S0.out ?_
  refine step_cv (i := 5) (j := 12) (by kernel_rfl) rfl rfl fn2 #[q2, .slice ao0 cl cap0] (exec_inv (.tmp 8) (.tmp 9) T2 q2 _ fn2 _ HM2.out HE2.out rfl (by kernel_rfl) (by kernel_rfl) W0) rfl rfl (.slice (some ⟨W0.heap.size, 0, none⟩) 1 1) (exec_bs34k (.tmp 16) 4 f.k f.a f.b (Pl.ba f.nm) rfl (by kernel_rfl) W0) (S0.out.alloc _) ?_ ?_
  · refine Calls.mono (runC HC2.out HUP2.out CR.out HN2.out HS0.out HF2.out HD2.out (by simp) (by omega) HB.out) ?_
    rintro e w1 ⟨v1, Fa, rfl, h1⟩
    have SA : Hid (S2 X.heap.size f (.iface T1 q1) (.iface T2 q2) w1) := S0.out.cdr h1 HPP.out
    refine ⟨v1, rfl, SA.out, ?_⟩
    have HN1' := hideP (h1.notown S0.out.lt HPP.out)
    have HO1 := hideP (show v1.ownBlock ≠ some w1.heap.size from fun e => Nat.lt_irrefl _ (h1.i _ (h1.o.lt _ e).1).2)
    have H1 := hideP h1
    clear h1
    refine step_cv (i := 8) (j := 12) (by kernel_rfl) rfl rfl fn1 #[q1, v1] (exec_inv (.tmp 12) (.tmp 10) T1 q1 _ fn1 _ HM1.out HE1.out rfl (by kernel_rfl) (by kernel_rfl) w1) rfl rfl (.slice (some ⟨w1.heap.size, 0, none⟩) 1 1) (exec_bs34k (.tmp 16) 4 f.k f.a f.b (Pl.ba f.nm) rfl (by kernel_rfl) w1) (SA.out.alloc _) ?_ ?_
    · refine Calls.mono (runC HC1.out HUP1.out H1.out HN1.out HS0.out HF1.out HD1.out H12.out (by simp; omega) HB.out) ?_
      rintro e w2 ⟨v2, Fb, rfl, h2⟩
      have SB : Hid (S2 X.heap.size f (.iface T1 q1) (.iface T2 q2) w2) := SA.out.cdr h2 HN1'.out
      refine ⟨v2, rfl, SB.out, ?_⟩
      have HN9 := hideP (h2.notown SA.out.lt HN1'.out)
      have HT := hideP (H1.out.trans h2)
      have HZ := hideP (Nat.le_trans H1.out.g.size h2.g.size)
      clear h2
      refine step_valq (i := 12) (by kernel_rfl) rfl rfl (.slice (some ⟨w2.heap.size, 0, none⟩) 1 1) (exec_bs34k (.tmp 16) 4 f.k f.a f.b (Pl.ba f.nm) rfl (by kernel_rfl) w2) (SB.out.alloc _) ?_
      obtain ⟨v9, w9, F9, hr9, h9, g9⟩ := last_k (HT.out.alloc (objK 4 f)) (recK_new w2 4 f) (by simp; omega) (by have := HB.out; have := HZ.out; first | omega | (simp; omega)) 41
      have S9 : Hid (S2 X.heap.size f (.iface T1 q1) (.iface T2 q2) w9) := (SB.out.alloc (objK 4 f)).same (g9.block _ (SB.out.alloc (objK 4 f)).lt (fun e => HN9.out e.symm)) g9.size
      refine step_valq (i := 13) (by kernel_rfl) rfl rfl v9 (exec_app34 (.tmp 13) (.tmp 17) v2 (.slice (some ⟨w2.heap.size, 0, none⟩) 1 1) v9 _ w9 rfl (by kernel_rfl) (by kernel_rfl) hr9) S9.out ?_
      refine step_valq (i := 14) (by kernel_rfl) rfl rfl v9 (exec_assignq (.tmp 18) v9 rfl (by kernel_rfl) w9) S9.out ?_
      refine wpAnyH_done (by kernel_rfl) ?_ _
      have hone := h9.o.one
      have H9 := hideP ((h9.from_ HBB.out).mem (c' := c0 ++ (c2 ++ (c1 ++ [⟨4, [], [], f⟩]))) (G := F2 ++ F1) (by simp) (fun x hx => .inl (by simpa using hx)))
      clear h9 g9 S9 hr9 
      go_wp2_with fail
      refine bodyPost_ret (v := v9) (by simp [results, Tryz.results165, go_sem]) rfl ⟨v9, F9, rfl, H9.out⟩
    · have HKB := hideP (recK_new w1 4 f)
      refine step_callq (i := 8) (by kernel_rfl) rfl rfl fn1 #[q1, v1] (exec_inv (.tmp 12) (.tmp 10) T1 q1 _ fn1 _ HM1.out HE1.out rfl (by kernel_rfl) (by kernel_rfl) _) ?_
      refine Calls.mono (runC HC1.out HUP1.out (H1.out.alloc (objK 4 f)) HN1.out HS0.out HF1.out HD1.out H12.out (by simp; omega) HB.out) ?_
      rintro e w2 ⟨v2, Fb, rfl, h2⟩
      have SB : Hid (S2 X.heap.size f (.iface T1 q1) (.iface T2 q2) w2) := (SA.out.alloc (objK 4 f)).cdr h2 HN1'.out
      refine ⟨v2, rfl, SB.out, ?_⟩
      have HN9 := hideP (h2.notown (SA.out.alloc _).lt HN1'.out)
      have HKC := hideP (recK_keep HKB.out (h2.keepb (by simp) HO1.out))
      have HT := hideP ((H1.out.alloc (objK 4 f)).trans h2)
      have HZ := hideP (Nat.le_trans (H1.out.alloc (objK 4 f)).g.size h2.g.size)
      clear h2
      obtain ⟨v9, w9, F9, hr9, h9, g9⟩ := last_k HT.out HKC.out (by simp; omega) (by have := HB.out; have := HZ.out; first | omega | (simp; omega)) 41
      have S9 : Hid (S2 X.heap.size f (.iface T1 q1) (.iface T2 q2) w9) := SB.out.same (g9.block _ SB.out.lt (fun e => HN9.out e.symm)) g9.size
      refine step_valq (i := 13) (by kernel_rfl) rfl rfl v9 (exec_app34 (.tmp 13) (.tmp 17) v2 (.slice (some ⟨w1.heap.size, 0, none⟩) 1 1) v9 _ w9 rfl (by kernel_rfl) (by kernel_rfl) hr9) S9.out ?_
      refine step_valq (i := 14) (by kernel_rfl) rfl rfl v9 (exec_assignq (.tmp 18) v9 rfl (by kernel_rfl) w9) S9.out ?_
      refine wpAnyH_done (by kernel_rfl) ?_ _
      have hone := h9.o.one
      have H9 := hideP ((h9.from_ HBB.out).mem (c' := c0 ++ (c2 ++ (c1 ++ [⟨4, [], [], f⟩]))) (G := F2 ++ F1) (by simp) (fun x hx => .inl (by simpa using hx)))
      clear h9 g9 S9 hr9 
      go_wp2_with fail
      refine bodyPost_ret (v := v9) (by simp [results, Tryz.results165, go_sem]) rfl ⟨v9, F9, rfl, H9.out⟩
  · have HKB := hideP (recK_new W0 4 f)
    refine step_callq (i := 5) (by kernel_rfl) rfl rfl fn2 #[q2, .slice ao0 cl cap0] (exec_inv (.tmp 8) (.tmp 9) T2 q2 _ fn2 _ HM2.out HE2.out rfl (by kernel_rfl) (by kernel_rfl) _) ?_
    refine Calls.mono (runC HC2.out HUP2.out (CR.out.alloc (objK 4 f)) HN2.out HS0.out HF2.out HD2.out (by simp) (by omega) HB.out) ?_
    rintro e w1 ⟨v1, Fa, rfl, h1⟩
    have SA : Hid (S2 X.heap.size f (.iface T1 q1) (.iface T2 q2) w1) := (S0.out.alloc (objK 4 f)).cdr h1 HPP.out
    refine ⟨v1, rfl, SA.out, ?_⟩
    have HN1' := hideP (h1.notown (S0.out.alloc _).lt HPP.out)
    have HO1 := hideP (h1.notown (p := W0.heap.size) (by simp) HPW.out)
    have HKC := hideP (recK_keep HKB.out (h1.keepb (by simp) HPW.out))
    have H1 := hideP ((CR.out.alloc (objK 4 f)).trans h1)
    have hlt := Nat.lt_of_lt_of_le (show W0.heap.size < (W0.alloc (objK 4 f)).heap.size by simp) h1.g.size
    clear h1
    refine step_callq (i := 8) (by kernel_rfl) rfl rfl fn1 #[q1, v1] (exec_inv (.tmp 12) (.tmp 10) T1 q1 _ fn1 _ HM1.out HE1.out rfl (by kernel_rfl) (by kernel_rfl) w1) ?_
    refine Calls.mono (runC HC1.out HUP1.out H1.out HN1.out HS0.out HF1.out HD1.out (by simpa using H12.out) (by simp; omega) HB.out) ?_
    rintro e w2 ⟨v2, Fb, rfl, h2⟩
    have SB : Hid (S2 X.heap.size f (.iface T1 q1) (.iface T2 q2) w2) := SA.out.cdr h2 HN1'.out
    refine ⟨v2, rfl, SB.out, ?_⟩
    have HN9 := hideP (h2.notown SA.out.lt HN1'.out)
    have HKD := hideP (recK_keep HKC.out (h2.keepb hlt HO1.out))
    have HT := hideP (H1.out.trans h2)
    have HZ := hideP (Nat.le_trans H1.out.g.size h2.g.size)
    clear h2
    obtain ⟨v9, w9, F9, hr9, h9, g9⟩ := last_k HT.out HKD.out (by simp; omega) (by have := HB.out; have := HZ.out; first | omega | (simp; omega)) 41
    have S9 : Hid (S2 X.heap.size f (.iface T1 q1) (.iface T2 q2) w9) := SB.out.same (g9.block _ SB.out.lt (fun e => HN9.out e.symm)) g9.size
    refine step_valq (i := 13) (by kernel_rfl) rfl rfl v9 (exec_app34 (.tmp 13) (.tmp 17) v2 (.slice (some ⟨W0.heap.size, 0, none⟩) 1 1) v9 _ w9 rfl (by kernel_rfl) (by kernel_rfl) hr9) S9.out ?_
    refine step_valq (i := 14) (by kernel_rfl) rfl rfl v9 (exec_assignq (.tmp 18) v9 rfl (by kernel_rfl) w9) S9.out ?_
    refine wpAnyH_done (by kernel_rfl) ?_ _
    have hone := h9.o.one
    have H9 := hideP ((h9.from_ HBB.out).mem (c' := c0 ++ (c2 ++ (c1 ++ [⟨4, [], [], f⟩]))) (G := F2 ++ F1) (by simp) (fun x hx => .inl (by simpa using hx)))
    clear h9 g9 S9 hr9 
    go_wp2_with fail
    refine bodyPost_ret (v := v9) (by simp [results, Tryz.results165, go_sem]) rfl ⟨v9, F9, rfl, H9.out⟩
mutual
/-- a node's code -/
theorem cdE : ∀ (e : Pl.E) (w : World) (v : Value) (F0 : List Nat), NdE w e v F0 → ∀ F, CdC e.code (fun w v F => NdE w e v F) v F
  | .opd o, w, v, F0, h, F => by
    rw [NdE] at h
    obtain ⟨T, q, fn, h1, h2, h3, h4⟩ := cdO o w v F0 h F
    refine ⟨T, q, fn, h1, h2, h3, fun X B sv c0 F0 hN => ?_⟩
    have hN' : NdO X o v F := by change NdE X _ _ _ at hN; rw [NdE] at hN; exact hN
    exact h4 X B sv c0 F0 hN'
  | .one f e, w, v, F0, h, F => by
    rw [NdE] at h
    obtain ⟨vr, rfl, h2⟩ := h
    have ih := cdE e w vr F0 h2 F
    refine ⟨135, _, 162, rfl, meth_c119 _, enters_of Tryz.func162 (by kernel_rfl) rfl, fun X B sv c0 F0 hN hS hF0 hF hd hbd hB => ?_⟩
    change NdE X _ _ _ at hN
    rw [NdE] at hN
    obtain ⟨vr', e1, hN⟩ := hN
    obtain rfl : vr = vr' := by simpa using e1
    rw [Pl.E.code] at hbd ⊢
    exact code_one f.one vr e.code _ F ih (fun w w' hk hn => hn.keep e vr F hk) X B sv c0 F0 hN hS hF0 hF hd (by simpa using hbd) hB
  | .two o f e, w, v, F0, h, F => by
    rw [NdE] at h
    obtain ⟨vl, vr, F1, F2, rfl, rfl, h3, h4, h5⟩ := h
    have ih1 := cdO o w vl F1 h3
    have ih2 := cdE e w vr F2 h4
    refine ⟨138, _, 165, rfl, meth_c121 _, enters_of Tryz.func165 (by kernel_rfl) rfl, fun X B sv c0 F0 hN hS hF0 hF hd hbd hB => ?_⟩
    change NdE X _ _ _ at hN
    rw [NdE] at hN
    obtain ⟨vl', vr', G1, G2, e1, rfl, hN1, hN2, hdd⟩ := hN
    obtain ⟨rfl, rfl⟩ : vl = vl' ∧ vr = vr' := by simpa using e1
    rw [Pl.E.code] at hbd ⊢
    exact code_two f.two vl vr o.code e.code _ _ G1 G2 (ih1 G1) (ih2 G2) (fun w w' hk hn => hn.keep o vl G1 hk) (fun w w' hk hn => hn.keep e vr G2 hk) X B sv c0 F0 hN1 hN2 hS hF0 (fun x hx => hF x (List.mem_append_right _ hx)) (fun x hx => hF x (List.mem_append_left _ hx)) (fun x hx => hd x (List.mem_append_right _ hx)) (fun x hx => hd x (List.mem_append_left _ hx)) (fun x hx h => hdd x h hx) (by simp at hbd; omega) hB
theorem cdO : ∀ (o : Pl.O) (w : World) (v : Value) (F0 : List Nat), NdO w o v F0 → ∀ F, CdC o.code (fun w v F => NdO w o v F) v F
  | .nums n ns, w, v, F0, h, F => by
    rw [NdO] at h
    obtain ⟨sv0, rfl, h2⟩ := h
    refine ⟨131, _, 156, rfl, meth_c128 _, enters_of Tryz.func156 (by kernel_rfl) rfl, fun X B sv c0 F0 hN hS hF0 hF hd hbd hB => ?_⟩
    change NdO X _ _ _ at hN
    rw [NdO] at hN
    obtain ⟨sv1, e1, hN⟩ := hN
    obtain rfl : sv0 = sv1 := by simpa using e1
    rw [Pl.O.code] at hbd ⊢
    exact code_nums X B sv0 sv (n :: ns) F F0 c0 hN hF hS hF0 hd (by simpa using hbd) hB
  | .name nm, w, v, F0, h, F => by
    rw [NdO] at h
    obtain ⟨rfl, rfl⟩ := h
    refine ⟨133, _, 159, rfl, meth_c130 _, enters_of Tryz.func159 (by kernel_rfl) rfl, fun X B sv c0 F0 hN hS hF0 hF hd hbd hB => ?_⟩
    change NdO X _ _ _ at hN
    rw [NdO] at hN
    obtain ⟨_, rfl⟩ := hN
    rw [Pl.O.code] at hbd ⊢
    exact code_name X B sv nm F0 c0 hS hF0 (by simpa using hbd) hB
  | .br e, w, v, F0, h, F => by
    rw [NdO] at h
    obtain ⟨T, q, fn, h1, h2, h3, h4⟩ := cdE e w v F0 h F
    refine ⟨T, q, fn, h1, h2, h3, fun X B sv c0 F0 hN => ?_⟩
    have hN' : NdE X e v F := by change NdO X _ _ _ at hN; rw [NdO] at hN; exact hN
    exact h4 X B sv c0 F0 hN'
end
namespace Pl
theorem sgT_sep : sgT [59] = .sep := rfl
theorem it_sep {t : Itk} (h : iOk t) : t.tx = ⟨#[59]⟩ ↔ itT t = .sep := by
  have e : (t.tx = ⟨#[59]⟩) ↔ t.tx.data.toList = [59] := by rw [ba_iff]
  rw [e]
  unfold itT
  rcases h with ⟨h1, h2⟩ | ⟨h1, h2⟩ | ⟨h1, h2⟩ | ⟨h1, h2⟩
  · rw [h1, h2, if_pos rfl]
    simp
  · rw [h1, if_neg (by decide), if_pos rfl]
    simp only [reduceCtorEq, iff_false]
    exact h2.2.2
  · rw [h1, if_neg (by decide), if_neg (by decide), if_pos rfl]
    simp only [reduceCtorEq, iff_false]
    exact h2.2.2
  · rw [h1, if_neg (by decide), if_neg (by decide), if_neg (by decide)]
    constructor
    · intro h
      rw [h]
      exact sgT_sep
    · intro h
      rcases h2 with h2 | h2 | h2
      · exfalso
        simp only [ten, List.mem_cons, List.not_mem_nil, or_false] at h2
        rcases h2 with e | e | e | e | e | e | e | e | e | e <;> rw [e] at h <;> (have h2 := congrArg isSep h; revert h2; decide)
      · exfalso
        obtain ⟨m, hm⟩ := Option.isSome_iff_exists.1 h2
        have hn : t.tx.data.toList ∉ ten := fun hx => by
          have := sg_row (l := t.tx.data.toList) (by simpa [ten] using hx)
          rw [this] at hm
          cases hm
        simp only [ten, List.mem_cons, List.not_mem_nil, or_false, not_or] at hn
        obtain ⟨h0, h1, h2, h3, h4, h5, h6, h7, h8, h9⟩ := hn
        unfold sgT at h
        rw [if_neg h0, if_neg h1, if_neg h2, if_neg h3, if_neg h4, if_neg h5, if_neg h6, if_neg h7, if_neg h8, if_neg h9, hm] at h
        cases h
      · exact h2
theorem seps_cons {t : T} (h : t ≠ .sep) (r : List T) : seps (t :: r) = t :: r := by
  cases t <;> first | rfl | exact absurd rfl h
/-- behind the separators -/
theorem seps_T {l : List Itk} (hl : ∀ t ∈ l, iOk t) : ∀ (n a : Nat), l.length - a ≤ n → seps (rI l a) = rI l (sepA l a)
  | n, a, hn => by
    by_cases ha : a < l.length
    · have hk := hl _ (tkAt_mem ha)
      by_cases hs : (tkAt l a).tx = ⟨#[59]⟩
      · obtain ⟨_, h2⟩ := sep_yes hs
        cases n with
        | zero => omega
        | succ n =>
          rw [h2, rI_cons ha, (it_sep hk).1 hs]
          show seps (rI l (a + 1)) = _
          exact seps_T hl n (a + 1) (by omega)
      · rw [sep_no hs, rI_cons ha, seps_cons (fun e => hs ((it_sep hk).2 e))]
    · have hs : ¬ (tkAt l a).tx = ⟨#[59]⟩ := fun h => ha (sep_yes h).1
      rw [sep_no hs, rI_past (by omega)]
      rfl
theorem sep_lt {l : List Itk} (hl : ∀ t ∈ l, iOk t) (a : Nat) : (a < sepA l a) ↔ ∃ r, rI l a = .sep :: r := by
  by_cases ha : a < l.length
  · have hk := hl _ (tkAt_mem ha)
    by_cases hs : (tkAt l a).tx = ⟨#[59]⟩
    · obtain ⟨_, h2⟩ := sep_yes hs
      have := (sepN_ge l (l.length - (a + 1)) (a + 1)).1
      rw [h2, rI_cons ha, (it_sep hk).1 hs]
      exact ⟨fun _ => ⟨_, rfl⟩, fun _ => by unfold sepA; omega⟩
    · rw [sep_no hs, rI_cons ha]
      refine ⟨fun h => absurd h (Nat.lt_irrefl _), fun ⟨r, hr⟩ => absurd ((it_sep hk).2 (List.cons.inj hr).1) hs⟩
  · have hs : ¬ (tkAt l a).tx = ⟨#[59]⟩ := fun h => ha (sep_yes h).1
    rw [sep_no hs, rI_past (by omega)]
    refine ⟨fun h => absurd h (Nat.lt_irrefl _), fun ⟨r, hr⟩ => by cases hr⟩
theorem sepA_le {l : List Itk} {a : Nat} (h : a ≤ l.length) : a ≤ sepA l a ∧ sepA l a ≤ l.length := by
  have := sepN_ge l (l.length - a) a
  unfold sepA
  omega
theorem rI_len (l : List Itk) (a : Nat) : (rI l a).length = l.length - a := by simp [rI]
end Pl
/-- what code gives -/
def PoK (l : List Pl.Itk) (p cap a : Nat) (ao : Option Addr) (be : Bool) (w : World) (X : Option (Pl.E × List Pl.T)) (e : Ending) (w' : World) : Prop := match X with
  | none => ∃ a' be', e = .returned (.tuple #[.slice none 0 0, .bool false]) ∧ IxP l p cap ao 0 be' w a' w'
  | some (x, r) => ∃ v F a', e = .returned (.tuple #[v, .bool true]) ∧ OwS w' v x.code F ∧ Inb w.heap.size w' F ∧ IxP l p cap ao 0 (be || x.bey 0) w a' w' ∧ a' ≤ l.length ∧ a < a' ∧ Pl.rI l a' = r
theorem px_len {N : Nat} {l : List Pl.Itk} {a : Nat} {x : Pl.E} {r : List Pl.T} (h : Pl.pexpr N (Pl.rI l a) = some (x, r)) : x.code.length ≤ l.length := by
  obtain ⟨h1, h2⟩ := (Pl.psound N).1 _ _ _ h
  have h3 := Pl.E.code_len x h2
  have h4 := congrArg List.length h1
  rw [Pl.rI_len, List.length_append] at h4
  omega
/-- (*impl.parser).code -/
theorem code_any (N : Nat) (l : List Pl.Itk) (p cap a mb mo cp : Nat) (ao : Option Addr) (be : Bool) (w : World) (hl : l.length ≤ 1000000) (ha : a ≤ l.length) (hn : 2 * l.length + 1 ≤ N) (hk : ∀ t ∈ l, Pl.iOk t) (hE : Ej w l p ao mb mo cp) (hP : Ps w p ao l.length cap a 0 be) :
    Calls Tryz.prog 59 #[.pointer (some ⟨p, 0, none⟩)] w (PoK l p cap a ao be w (Pl.pexpr N (Pl.rI l a))) := by
  have K := hideP (expr_all N l p cap a 0 mb mo cp ao be w (by omega) ha (by omega) (by omega) hk hE hP)
  cases hX : Pl.pexpr N (Pl.rI l a) with
  | none =>
    rw [hX] at K
    clear hE hP hX
    go_enter Tryz.func59, Tryz.ntmps59
    go_wp2_with fail
    refine K.out.mono ?_
    rintro e w1 ⟨v, a1, be1, rfl, hv, hI⟩
    have HI := hideP hI
    clear hI
    rcases hv with rfl | ⟨T, q, rfl⟩
    · go_wp2_with fail
      refine bodyPost_ret (v := .tuple #[.slice none 0 0, .bool false]) (by simp [results, Tryz.results59, go_sem]) rfl ⟨a1, be1, rfl, HI.out⟩
    · go_wp2_with fail
      refine bodyPost_ret (v := .tuple #[.slice none 0 0, .bool false]) (by simp [results, Tryz.results59, go_sem]) rfl ⟨a1, be1, rfl, HI.out⟩
  | some q =>
    obtain ⟨x, r⟩ := q
    rw [hX] at K
    have hcl := px_len hX
    have hps : p < w.heap.size := hP.lt
    clear hE hP hX
    go_enter Tryz.func59, Tryz.ntmps59
    go_wp2_with fail
    refine K.out.mono ?_
    rintro e w1 ⟨v, F, a1, rfl, hNd, hF, hI, h1, h2, h3⟩
    obtain ⟨T, q, fn, rfl, hm, he, hC⟩ := cdE x w1 v F hNd F
    have hsz := hI.g.size
    have KC := hideP (hC w1 w.heap.size (.slice none 0 0) [] [] hNd (Own.nil _) (Inb.nil _ _) hF (by simp) (by simp; omega) hsz)
    have HI := hideP hI
    clear hI hC hNd hF K
    have hm' : ∀ w, (method 292 T q "loop.example/s02135/impl.code").run Tryz.prog w = .ok (fn, q) w := hm
    go_wp2_with fail
    refine KC.out.mono ?_
    rintro e w2 ⟨v2, F2, rfl, h9⟩
    have hb : Below w1.heap.size w1 w2 := ⟨h9.g.os, h9.g.tape, h9.g.output, h9.g.size, fun k hk => h9.g.block k hk (by simp [Value.ownBlock])⟩
    have hone := h9.o.one
    have H9 := hideP (show OwS w2 v2 x.code F2 ∧ Inb w.heap.size w2 F2 ∧ IxP l p cap ao 0 (be || x.bey 0) w a1 w2 from ⟨h9.o, h9.i, HI.out.ps.keep hb, grown_then HI.out.g hb hsz, HI.out.le⟩)
    clear h9 hb hm hm' he KC HI
    go_wp2_with fail
    refine bodyPost_ret (v := .tuple #[v2, .bool true]) (by simp [results, Tryz.results59, go_sem]) rfl ⟨v2, F2, a1, rfl, H9.out.1, H9.out.2.1, H9.out.2.2, h1, h2, h3⟩
end Go.Proofs.YthhfpcdbgndioaaGreatDoor
