import Derived.Test.YtmobjomebmipdaaWide
import Derived.Test.YtmobjomebmipdaaPlain3
import Derived.Deep.DeepCutAuto
namespace Go.Proofs.Ytmobjomebmipdaa
open Go.RowKit
set_option linter.unusedVariables false

/-- the two arrays in their boxes, the answer's box behind them -/
def Wid (w : World) (sa xs sb ys : List Int) (p0 p1 p2 p3 : Value) (wx : World) : Prop :=
  Below w.heap.size w wx ∧ w.heap.size + 2 < wx.heap.size ∧ (wx.cell? ⟨w.heap.size, 0, none⟩ = some p0 ∧ wx.cell? ⟨w.heap.size, 1, none⟩ = some p1 ∧ wx.cell? ⟨w.heap.size + 1, 0, none⟩ = some p2 ∧ wx.cell? ⟨w.heap.size + 1, 1, none⟩ = some p3) ∧
  (wx.cell? ⟨w.heap.size + 1 + 1, 0, none⟩ = some (.slice none 0 0) ∧ wx.cell? ⟨w.heap.size + 1 + 1, 1, none⟩ = some (.slice none 0 0) ∧ ∀ o, wx.frozen? ⟨w.heap.size + 1 + 1, o, none⟩ = false) ∧
  Rd wx.heap.size wx p0 sa ∧ Rd wx.heap.size wx p1 xs ∧ Rd wx.heap.size wx p2 sb ∧ Rd wx.heap.size wx p3 ys

theorem Wid.keep {w wx w' : World} {sa xs sb ys : List Int} {p0 p1 p2 p3 : Value} (h : Wid w sa xs sb ys p0 p1 p2 p3 wx) (hb : Below wx.heap.size wx w') : Wid w sa xs sb ys p0 p1 p2 p3 w' := by
  obtain ⟨h1, h2, ⟨c0, c1, c2, c3⟩, ⟨r0, r1, f⟩, g0, g1, g2, g3⟩ := h
  have hs := hb.size
  have k : ∀ b o v, b < wx.heap.size → wx.cell? ⟨b, o, none⟩ = some v → w'.cell? ⟨b, o, none⟩ = some v := fun b o v hlt e => (hb.cell (p := ⟨b, o, none⟩) hlt).trans e
  exact ⟨h1.trans (hb.mono (by omega)), by omega, ⟨k _ _ _ (by omega) c0, k _ _ _ (by omega) c1, k _ _ _ (by omega) c2, k _ _ _ (by omega) c3⟩, ⟨k _ _ _ (by omega) r0, k _ _ _ (by omega) r1, fun o => (hb.frozen (p := ⟨w.heap.size + 1 + 1, o, none⟩) (by show _ < _; omega)).trans (f o)⟩, (g0.keep hb).up hs, (g1.keep hb).up hs, (g2.keep hb).up hs, (g3.keep hb).up hs⟩

/-- append(v, u...), and what is not written -/
theorem wpList_append_rdg {base B : Nat} (w : World) {ops : Array Oper} {rest : List Oper} {o : Oper} {a : Act} {Q : Exit → Act → World → Prop} (hg : o.guard = none) (s x : Operand)
    (hop : o.op = Op.call { callee := Callee.builtin Builtin.append, args := #[s, x], argTypes := #[22, 22] }) (v u : Value) (hs : a.eval s = v) (hx : a.eval x = u) (n : Nat) (ys xs : List Int)
    (hown : w.ownsRow base 3 1 v n (ys.map (Value.int .i64))) (hrd : Rd B w u xs) (hbd : n + xs.length ≤ 16777216) (hbase : base ≤ w.heap.size)
    (hK : ∀ v' w', w'.ownsRow base 3 1 v' (n + xs.length) ((ys ++ xs).map (Value.int .i64)) → w.grownBy w' v.ownBlock → wpList Try.prog ops Q rest (a.put o.dst v') w') : wpList Try.prog ops Q (o :: rest) a w := by
  obtain ⟨v', w', hr, ho, hb⟩ := append_rd' w v n ys hown u xs hrd hbd hbase o.type
  exact wpList_append_eq w w' hg s x _ hop v u v' hs hx hr (hK v' w' ho hb)

theorem own_two {B : Nat} {w : World} {u u' x y : Value} {zs zs' : List Int} {b : Nat} (h : Own B w u zs) (eu : u = u') (e : zs = zs') (hb : b < B) : Rd ((w.setCell ⟨b, 0, none⟩ x).setCell ⟨b, 1, none⟩ y).heap.size ((w.setCell ⟨b, 0, none⟩ x).setCell ⟨b, 1, none⟩ y) u' zs' := by
  subst e
  subst eu
  exact (Own.store (Own.store h hb _) hb _).rd

set_option maxRecDepth 100000 in
set_option maxHeartbeats 4000000 in
/-- spec.l2Each -/
theorem l2Each_any (op : Int) (F : Int → Int → Int × Int) (v0 v1 v2 v3 : Value) (sa da sb db : List Int) (w : World)
    (hF : ∀ x y w', -3000000000 ≤ x → x ≤ 3000000000 → -3000000000 ≤ y → y ≤ 3000000000 → Calls Try.prog 79 #[.int .i64 op, .int .i64 x, .int .i64 y] w' fun e w'' => e = .returned (.tuple #[.int .i64 (F x y).1, .int .i64 (F x y).2]) ∧ w'' = w')
    (h0 : Rd w.heap.size w v0 sa) (h1 : Rd w.heap.size w v1 da) (h2 : Rd w.heap.size w v2 sb) (h3 : Rd w.heap.size w v3 db) (oka : Pl.okB sa da = true) (okb : Pl.okB sb db = true) (c : Int) (S D : List Int) (hres : Pl.each2M F sa da sb db = (c, S, D)) :
    Calls Try.prog 50 #[.int .i64 op, .agg #[v0, v1], .agg #[v2, v3]] w (FPost w c S D) := by
  have HF := hideP hF
  have H0 := hideP h0
  have H1 := hideP h1
  have H2 := hideP h2
  have H3 := hideP h3
  obtain ⟨a0, d0, e0⟩ := h0.form
  obtain ⟨a1, d1, b1, o1, e1, hao1, hb1, hc1⟩ := h1.parts
  obtain ⟨a2, d2, e2⟩ := h2.form
  obtain ⟨a3, d3, b3, o3, e3, hao3, hb3, hc3⟩ := h3.parts
  have P1 := hideP (And.intro hao1 (And.intro hb1 hc1))
  have P3 := hideP (And.intro hao3 (And.intro hb3 hc3))
  subst e0
  subst e1
  subst e2
  subst e3
  have OA := hideP oka
  have OB := hideP okb
  have HR := hideP hres
  clear h0 h1 h2 h3 hF oka okb hres hao1 hb1 hc1 hao3 hb3 hc3
  have B : Hid (∀ o o' o'', Below w.heap.size w (((w.alloc o).alloc o').alloc o'')) := fun o o' o'' => below3 w o o' o''
  go_enter Try.func50, Try.ntmps50
  go_upto_if 15 with fail
  go_cut [] (fun wx => ∃ sx xs sy ys p0 p1 p2 p3, Hid (Wid w sx xs sy ys p0 p1 p2 p3 wx) ∧ Hid (Pl.okB sx xs = true ∧ Pl.okB sy ys = true ∧ Pl.eachM F sx xs sy ys = (c, S, D)))
  case first =>
    by_cases hsa : sa.length = 0
    · have hda := Pl.ok_one OA.out hsa
      have hao := P1.out.1 (by omega)
      have hlt := P1.out.2.1 (by omega)
      have hce := P1.out.2.2 0 (by omega)
      rw [Nat.add_zero] at hce
      have WE := hideP (And.intro (Pl.ok_rep OA.out OB.out (by omega)) (And.intro OB.out (show Pl.eachM F sb (Pl.rep sb da) sb db = (c, S, D) by have := HR.out; unfold Pl.each2M at this; rw [if_pos hsa] at this; exact this)))
      have FB := (Pl.ok_len OB.out).2
      have test : ((sa.length : Int) == 0) = true := by simp [hsa]
      have HDA := hideP hda
      have HCE := hideP hce
      have HFB := hideP FB
      clear hsa hda hce FB
      subst hao
      go_wp2_with fail
      refine (l2Wide_any a0 sa.length d0 b1 o1 da.length d1 _ (da.getD 0 0) sb _ HFB.out (by simp; omega) (by rw [HDA.out]; omega) (((B.out _ _ _).cell (p := ⟨b1, o1, none⟩) hlt).trans HCE.out) ((H2.out.keep (B.out _ _ _)).up (by simp; omega))).mono ?_
      rintro e w1 ⟨u0, u1, rfl, hr1, hb1⟩
      have hs1 := hb1.size
      simp at hs1
      obtain ⟨hc, hf⟩ := bcell hb1
      have q0 : w1.cell? ⟨w.heap.size, 0, none⟩ = some (.slice a0 sa.length d0) := by rw [hc w.heap.size 0 (by simp <;> omega)]; simp [go_sem]
      have q1 : w1.cell? ⟨w.heap.size, 1, none⟩ = some (.slice (some ⟨b1, o1, none⟩) da.length d1) := by rw [hc w.heap.size 1 (by simp <;> omega)]; simp [go_sem]
      have q2 : w1.cell? ⟨w.heap.size + 1, 0, none⟩ = some (.slice a2 sb.length d2) := by rw [hc (w.heap.size + 1) 0 (by simp <;> omega)]; simp [go_sem]
      have q3 : w1.cell? ⟨w.heap.size + 1, 1, none⟩ = some (.slice a3 db.length d3) := by rw [hc (w.heap.size + 1) 1 (by simp <;> omega)]; simp [go_sem]
      have r0 : w1.cell? ⟨w.heap.size + 1 + 1, 0, none⟩ = some (.slice none 0 0) := by rw [hc (w.heap.size + 1 + 1) 0 (by simp)]; simp [go_sem]
      have r1 : w1.cell? ⟨w.heap.size + 1 + 1, 1, none⟩ = some (.slice none 0 0) := by rw [hc (w.heap.size + 1 + 1) 1 (by simp)]; simp [go_sem]
      have f0 : ∀ o, w1.frozen? ⟨w.heap.size, o, none⟩ = false := fun o => by rw [hf (w.heap.size) o (by simp <;> omega)]; simp [go_sem]
      have f2 : ∀ o, w1.frozen? ⟨w.heap.size + 1 + 1, o, none⟩ = false := fun o => by rw [hf (w.heap.size + 1 + 1) o (by simp)]; simp [go_sem]
      have B1 := hideP ((B.out _ _ _).trans (hb1.mono (by simp; omega)))
      have R1 := hideP hr1
      obtain ⟨x0, y0, ex0⟩ := hr1.1.form
      obtain ⟨x1, y1, ex1⟩ := hr1.2.1.form
      subst ex0
      subst ex1
      clear hc hf hb1 hr1
      go_wp2_with fail
      go_meet
      case rel =>
        refine ⟨sb, Pl.rep sb da, sb, db, .slice x0 sb.length y0, .slice x1 (Pl.prodC sb).toNat y1, .slice a2 sb.length d2, .slice a3 db.length d3, ⟨(B1.out.setCell (by simp) _).setCell (by simp) _, by simp; omega, ?_, ?_, ?_, ?_, ?_, ?_⟩, WE⟩
        · simp [go_sem, q0, q1, q2, q3]
        · simp [go_sem, r0, r1, f2]
        · exact own_two R1.out.1 rfl rfl (by simp <;> omega)
        · exact own_two R1.out.2.1 (by simp) rfl (by simp <;> omega)
        · exact (H2.out.keep ((B1.out.setCell (by simp) _).setCell (by simp) _)).up (by simp; omega)
        · exact (H3.out.keep ((B1.out.setCell (by simp) _).setCell (by simp) _)).up (by simp; omega)
    · by_cases hsb : sb.length = 0
      · have hda := Pl.ok_one OB.out hsb
        have hao := P3.out.1 (by omega)
        have hlt := P3.out.2.1 (by omega)
        have hce := P3.out.2.2 0 (by omega)
        rw [Nat.add_zero] at hce
        have WE := hideP (And.intro OA.out (And.intro (Pl.ok_rep OB.out OA.out (by omega)) (show Pl.eachM F sa da sa (Pl.rep sa db) = (c, S, D) by have := HR.out; unfold Pl.each2M at this; rw [if_neg hsa, if_pos hsb] at this; exact this)))
        have FB := (Pl.ok_len OA.out).2
        have test : ((sa.length : Int) == 0) = false := by rw [beq_eq_false_iff_ne]; omega
        have test2 : ((sb.length : Int) == 0) = true := by simp [hsb]
        have HDA := hideP hda
        have HCE := hideP hce
        have HFB := hideP FB
        clear hsa hsb hda hce FB
        subst hao
        go_wp2_with fail
        refine (l2Wide_any a2 sb.length d2 b3 o3 db.length d3 _ (db.getD 0 0) sa _ HFB.out (by simp; omega) (by rw [HDA.out]; omega) (((B.out _ _ _).cell (p := ⟨b3, o3, none⟩) hlt).trans HCE.out) ((H0.out.keep (B.out _ _ _)).up (by simp; omega))).mono ?_
        rintro e w1 ⟨u0, u1, rfl, hr1, hb1⟩
        have hs1 := hb1.size
        simp at hs1
        obtain ⟨hc, hf⟩ := bcell hb1
        have q0 : w1.cell? ⟨w.heap.size, 0, none⟩ = some (.slice a0 sa.length d0) := by rw [hc w.heap.size 0 (by simp <;> omega)]; simp [go_sem]
        have q1 : w1.cell? ⟨w.heap.size, 1, none⟩ = some (.slice a1 da.length d1) := by rw [hc w.heap.size 1 (by simp <;> omega)]; simp [go_sem]
        have q2 : w1.cell? ⟨w.heap.size + 1, 0, none⟩ = some (.slice a2 sb.length d2) := by rw [hc (w.heap.size + 1) 0 (by simp <;> omega)]; simp [go_sem]
        have q3 : w1.cell? ⟨w.heap.size + 1, 1, none⟩ = some (.slice (some ⟨b3, o3, none⟩) db.length d3) := by rw [hc (w.heap.size + 1) 1 (by simp <;> omega)]; simp [go_sem]
        have r0 : w1.cell? ⟨w.heap.size + 1 + 1, 0, none⟩ = some (.slice none 0 0) := by rw [hc (w.heap.size + 1 + 1) 0 (by simp)]; simp [go_sem]
        have r1 : w1.cell? ⟨w.heap.size + 1 + 1, 1, none⟩ = some (.slice none 0 0) := by rw [hc (w.heap.size + 1 + 1) 1 (by simp)]; simp [go_sem]
        have f0 : ∀ o, w1.frozen? ⟨w.heap.size + 1, o, none⟩ = false := fun o => by rw [hf (w.heap.size + 1) o (by simp <;> omega)]; simp [go_sem]
        have f2 : ∀ o, w1.frozen? ⟨w.heap.size + 1 + 1, o, none⟩ = false := fun o => by rw [hf (w.heap.size + 1 + 1) o (by simp)]; simp [go_sem]
        have B1 := hideP ((B.out _ _ _).trans (hb1.mono (by simp; omega)))
        have R1 := hideP hr1
        obtain ⟨x0, y0, ex0⟩ := hr1.1.form
        obtain ⟨x1, y1, ex1⟩ := hr1.2.1.form
        subst ex0
        subst ex1
        clear hc hf hb1 hr1
        go_wp2_with fail
        go_meet
        case rel =>
          refine ⟨sa, da, sa, Pl.rep sa db, .slice a0 sa.length d0, .slice a1 da.length d1, .slice x0 sa.length y0, .slice x1 (Pl.prodC sa).toNat y1, ⟨(B1.out.setCell (by simp) _).setCell (by simp) _, by simp; omega, ?_, ?_, ?_, ?_, ?_, ?_⟩, WE⟩
          · simp [go_sem, q0, q1, q2, q3]
          · simp [go_sem, r0, r1, f2]
          · exact (H0.out.keep ((B1.out.setCell (by simp) _).setCell (by simp) _)).up (by simp; omega)
          · exact (H1.out.keep ((B1.out.setCell (by simp) _).setCell (by simp) _)).up (by simp; omega)
          · exact own_two R1.out.1 rfl rfl (by simp <;> omega)
          · exact own_two R1.out.2.1 (by simp) rfl (by simp <;> omega)
      · have WE := hideP (And.intro OA.out (And.intro OB.out (show Pl.eachM F sa da sb db = (c, S, D) by have := HR.out; unfold Pl.each2M at this; rw [if_neg hsa, if_neg hsb] at this; exact this)))
        have test : ((sa.length : Int) == 0) = false := by rw [beq_eq_false_iff_ne]; omega
        have test2 : ((sb.length : Int) == 0) = false := by rw [beq_eq_false_iff_ne]; omega
        clear hsa hsb
        go_wp2_with fail
        go_meet
        case rel =>
          refine ⟨sa, da, sb, db, .slice a0 sa.length d0, .slice a1 da.length d1, .slice a2 sb.length d2, .slice a3 db.length d3, ⟨B.out _ _ _, by simp, ?_, ?_, ?_, ?_, ?_, ?_⟩, WE⟩
          · simp [go_sem]
          · simp [go_sem]
          · exact (H0.out.keep (B.out _ _ _)).up (by simp; omega)
          · exact (H1.out.keep (B.out _ _ _)).up (by simp; omega)
          · exact (H2.out.keep (B.out _ _ _)).up (by simp; omega)
          · exact (H3.out.keep (B.out _ _ _)).up (by simp; omega)
  case rest =>
    obtain ⟨sx, xs, sy, ys, p0, p1, p2, p3, W, E⟩ := hcut
    clear H0 H1 H2 H3 P1 P3 OA OB HR B
    obtain ⟨x0, y0, e0⟩ := W.out.2.2.2.2.1.form
    obtain ⟨x1, y1, b1, o1, e1, hao1, hb1, hc1⟩ := W.out.2.2.2.2.2.1.parts
    obtain ⟨x2, y2, e2⟩ := W.out.2.2.2.2.2.2.1.form
    obtain ⟨x3, y3, b3, o3, e3, hao3, hb3, hc3⟩ := W.out.2.2.2.2.2.2.2.parts
    subst e0
    subst e1
    subst e2
    subst e3
    have P1 := hideP (And.intro hao1 (And.intro hb1 hc1))
    have P3 := hideP (And.intro hao3 (And.intro hb3 hc3))
    clear hao1 hb1 hc1 hao3 hb3 hc3
    have hl0 : sx.length ≤ 3 := by
      have := (Pl.ok_len E.out.1).2
      simp only [Pl.fitsB, Pl.baseB, Bool.and_eq_true, decide_eq_true_eq] at this
      omega
    have hl2 : sy.length ≤ 3 := by
      have := (Pl.ok_len E.out.2.1).2
      simp only [Pl.fitsB, Pl.baseB, Bool.and_eq_true, decide_eq_true_eq] at this
      omega
    have hlx : xs.length ≤ 1000 := by
      have := (Pl.ok_len E.out.1).1
      have h := (Pl.ok_len E.out.1).2
      simp only [Pl.fitsB, Pl.baseB, Bool.and_eq_true, decide_eq_true_eq] at h
      omega
    have hs0 := W.out.2.1
    have c0 := W.out.2.2.1.1
    have c2 := W.out.2.2.1.2.2.1
    have r0 := W.out.2.2.2.1.1
    have r1 := W.out.2.2.2.1.2.1
    have f2 := W.out.2.2.2.1.2.2
    by_cases hlen : sx.length = sy.length
    · have test : ((sx.length : Int) != (sy.length : Int)) = false := by simp [hlen]
      by_cases hs : sx = sy
      · have K : Calls Try.prog 67 #[.slice x0 sx.length y0, .slice x2 sy.length y2] wc fun e w' => e = .returned (.bool true) ∧ Below wc.heap.size wc w' := by
          have := l2Same_any _ _ sx sy wc (by omega) (by omega) W.out.2.2.2.2.1 W.out.2.2.2.2.2.2.1
          rw [decide_eq_true hs] at this
          exact this
        have HK := hideP K
        clear K hlen
        subst hs
        have hyx := Pl.ok_lens E.out.2.1 E.out.1
        have OX := hideP (fun x (hx : x ∈ xs) => Pl.ok_cell E.out.1 hx)
        have OY := hideP (fun x (hx : x ∈ ys) => Pl.ok_cell E.out.2.1 hx)
        have e := E.out.2.2
        unfold Pl.eachM at e
        rw [if_neg (fun h => h rfl), if_neg (fun h => h rfl)] at e
        generalize hC : Pl.firstG (Pl.pairF F) (xs.zip ys) = C at e
        have PC := hideP hC
        have PE := hideP e
        clear hC e E
        rw [hyx] at P3 W
        generalize hn : xs.length = n at *
        have Hn : Hid (xs.length = n) := hn
        have Hm : Hid (ys.length = n) := hyx
        clear hn hyx
        go_wp2_with fail
        refine HK.out.mono ?_
        rintro e w1 ⟨rfl, hb1⟩
        have W1 := hideP (W.out.keep hb1)
        have B1 := hideP hb1
        clear c0 c2 r0 r1 f2 hb1
        have c0 := W1.out.2.2.1.1
        go_wp2_with fail
        refine (l2Copy_any _ sx _ (by omega) W1.out.2.2.2.2.1).mono ?_
        rintro e w2 ⟨v2, rfl, ho2, hb2⟩
        have W2 := hideP (W1.out.keep hb2)
        have B2 := hideP (B1.out.trans (hb2.mono B1.out.size))
        have HO2 := hideP (own_of_any ho2)
        have hs2 := hb2.size
        have hs1 := B1.out.size
        obtain ⟨xz, yz, ez⟩ := owns_form ho2
        subst ez
        clear ho2 hb2 c0
        go_wp2_with fail
        go_loopw [9, 10, 11] (fun i _ _ wr => ∃ k : Nat, k ≤ n ∧ i = .int .i64 k ∧ Hid (∀ p ∈ Pl.zipT xs ys k, (Pl.pairF F p).2 = 0) ∧ ∃ nv, Hid (wr.heap[w2.heap.size + 1]? = some (.cells #[.slice xz sx.length yz, nv] 27 (0, 0))) ∧
            Hid (wr.ownsRow w2.heap.size 3 1 nv k (((Pl.zipT xs ys k).map (fun p => (Pl.pairF F p).1)).map (Value.int .i64))) ∧ Hid (Below w2.heap.size w2 wr)) (fun i _ _ _ => n - (intOf i).toNat)
        case atStart =>
          refine ⟨0, Nat.zero_le _, rfl, by intro x hx; rw [Pl.zipT_zero] at hx; simp at hx, .slice (some ⟨w2.heap.size, 0, none⟩) 0 0, ?_, ?_, ?_⟩
          · have := heap_alloc_new (w2.alloc (.cells #[] 3)) (.cells #[.slice xz sx.length yz, .slice (some ⟨w2.heap.size, 0, none⟩) 0 0] 27)
            show _ = _
            simpa using this
          · exact (owns_empty w2 w2.heap.size (Nat.le_refl _)).alloc _
          · exact ((Below.refl _ _).alloc (Nat.le_refl _) _).alloc (by simp) _
        case round =>
          obtain ⟨k, hk, rfl, hz, nv, hP, ho, hbel⟩ := hrel
          have WR := hideP (W2.out.keep hbel.out)
          have BR := hideP (B2.out.trans (hbel.out.mono (by omega)))
          have hsz : w2.heap.size + 1 < wr.heap.size := (Array.getElem?_eq_some_iff.1 hP.out).1
          obtain ⟨xo, yo, eo⟩ := owns_form ho.out
          subst eo
          have q1 := WR.out.2.2.1.2.1
          by_cases hlt : k < n
          · have q3 := WR.out.2.2.1.2.2.2
            have hlen : k < xs.length := by rw [Hn.out]; exact hlt
            have hlen' : k < ys.length := by rw [Hm.out]; exact hlt
            have hao1 := P1.out.1 (by omega)
            have hao3 := P3.out.1 (by omega)
            have hck1 : wr.cell? ⟨b1, o1 + k, none⟩ = some (.int .i64 (xs.getD k 0)) := (BR.out.cell (p := ⟨b1, o1 + k, none⟩) (P1.out.2.1 (by omega))).trans (P1.out.2.2 k (by omega))
            have hck3 : wr.cell? ⟨b3, o3 + k, none⟩ = some (.int .i64 (ys.getD k 0)) := (BR.out.cell (p := ⟨b3, o3 + k, none⟩) (P3.out.2.1 (by omega))).trans (P3.out.2.2 k (by omega))
            clear P1 P3 HK
            subst hao1
            subst hao3
            have hmx : xs.getD k 0 ∈ xs := by
              have : xs.getD k 0 = xs[k] := by simp [List.getD, hlen]
              rw [this]; exact List.getElem_mem hlen
            have hmy : ys.getD k 0 ∈ ys := by
              have : ys.getD k 0 = ys[k] := by simp [List.getD, hlen']
              rw [this]; exact List.getElem_mem hlen'
            have X := OX.out _ hmx
            have Y := OY.out _ hmy
            have T : Hid (Pl.zipT xs ys (k + 1) = Pl.zipT xs ys k ++ [(xs.getD k 0, ys.getD k 0)]) := Pl.zipT_snoc xs ys k hlen hlen'
            have FA : Hid (¬ (F (xs.getD k 0) (ys.getD k 0)).2 = 0 → Pl.firstG (Pl.pairF F) (xs.zip ys) = (F (xs.getD k 0) (ys.getD k 0)).2) := Pl.first_at F xs ys k hlen hlen' hz.out
            clear hmx hmy hlen hlen'
            generalize xs.getD k 0 = x at *
            generalize ys.getD k 0 = y at *
            have L : Hid (∀ w, Calls Try.prog 79 #[.int .i64 op, .int .i64 x, .int .i64 y] w fun e w' => e = .returned (.tuple #[.int .i64 (F x y).1, .int .i64 (F x y).2]) ∧ w' = w) := fun w => HF.out x y w X.1 X.2 Y.1 Y.2
            clear X Y
            have hlt' : (k : Int) < (n : Int) := by omega
            have QP : Hid (∀ m, (wr.drewN m).heap[w2.heap.size + 1]? = some (.cells #[.slice xz sx.length yz, .slice xo k yo] 27 (0, 0))) := fun m => hP.out
            have QB : Hid (∀ m, Below w2.heap.size w2 (wr.drewN m)) := fun m => below_drewN hbel.out m
            have QO : Hid (∀ m, (wr.drewN m).ownsRow w2.heap.size 3 1 (.slice xo k yo) k (((Pl.zipT xs ys k).map (fun p => (Pl.pairF F p).1)).map (Value.int .i64))) := fun m => ho.out
            have QW := hideP (fun m => WR.out.keep (below_drewN (Below.refl _ _) m))
            by_cases hr : (F x y).2 = 0
            · have Z : Hid (∀ p ∈ Pl.zipT xs ys (k + 1), (Pl.pairF F p).2 = 0) := by
                intro p hp
                rw [T.out] at hp
                simp at hp
                rcases hp with hp | rfl
                · exact hz.out p hp
                · exact hr
              rw [hr] at L
              clear hr FA
              have Y : Hid ((Pl.zipT xs ys (k + 1)).map (fun p => (Pl.pairF F p).1) = (Pl.zipT xs ys k).map (fun p => (Pl.pairF F p).1) ++ [(F x y).1]) := by show _ = _; rw [T.out]; simp [Pl.pairF]
              generalize (F x y).1 = r at *
              generalize (Pl.zipT xs ys k).map (fun p => (Pl.pairF F p).1) = zs at *
              go_wp2_with fail
              go_quiet ((go_at_call 79; exact Calls.quiet_of_same (L.out _)))
              have PQ := hideP (QP.out nq)
              have BQ := hideP (QB.out nq)
              have OQ := hideP (QO.out nq)
              have WQ := hideP (QW.out nq)
              clear QP QB QO QW hck1 hck3 q1 q3 WR BR hP ho hbel
              generalize wr.drewN nq = wq at *
              have hsq : w2.heap.size + 1 < wq.heap.size := (Array.getElem?_eq_some_iff.1 PQ.out).1
              have p1 : wq.cell? ⟨w2.heap.size + 1, 1, none⟩ = some (.slice xo k yo) := cell_blk PQ.out
              go_wp2_with (at_builtin; refine wpList_append_one (base := w2.heap.size) _ _ _ rfl _ _ rfl _ rfl rfl k _ OQ.out (by omega) (by omega) ?_)
              intro v' w9 ho' hg
              have ho9 : w9.ownsRow w2.heap.size 3 1 v' (k + 1) ((zs ++ [r]).map (Value.int .i64)) := by
                rw [List.map_append]
                exact ho'
              have OS := hideP (out_step PQ.out OQ.out (Nat.le_succ _) BQ.out hg ho9)
              obtain ⟨x9, y9, e9⟩ := owns_form ho9
              subst e9
              have p9 : w9.cell? ⟨w2.heap.size + 1, 1, none⟩ = some (.slice xo k yo) := cell_blk OS.out.1
              have f9 : w9.frozen? ⟨w2.heap.size + 1, 1, none⟩ = false := frozen_blk OS.out.1
              clear ho' ho9 hg p1
              go_wp2_with fail
              go_roundw
              case rel => exact ⟨k + 1, by omega, by go_num, Z, _, OS.out.2.1, by show World.ownsRow _ _ _ _ _ _ _; rw [Y.out]; exact OS.out.2.2.1, OS.out.2.2.2⟩
              case measure => simp [intOf]; omega
            · have EC := FA.out hr
              rw [PC.out] at EC
              have e := PE.out
              rw [if_neg (by rw [EC]; exact hr)] at e
              simp only [Prod.mk.injEq] at e
              obtain ⟨rfl, rfl, rfl⟩ := e
              have HEC := hideP EC
              have hne : ((F x y).2 != 0) = true := by rw [bne_iff_ne]; exact hr
              clear FA EC T PE PC hr
              generalize (F x y).1 = r at *
              generalize (F x y).2 = cc at *
              go_wp2_with fail
              go_quiet ((go_at_call 79; exact Calls.quiet_of_same (L.out _)))
              have PQ := hideP (QP.out nq)
              have BQ := hideP (QB.out nq)
              have OQ := hideP (QO.out nq)
              have WQ := hideP (QW.out nq)
              clear QP QB QO QW hck1 hck3 q1 q3 WR BR hP ho hbel
              generalize wr.drewN nq = wq at *
              have hsq : w2.heap.size + 1 < wq.heap.size := (Array.getElem?_eq_some_iff.1 PQ.out).1
              have r0 := WQ.out.2.2.2.1.1
              have r1 := WQ.out.2.2.2.1.2.1
              have f2 := WQ.out.2.2.2.1.2.2
              go_wp2_with fail
              refine bodyPost_ret (v := .tuple #[.agg #[.slice none 0 0, .slice none 0 0], .int .i64 cc]) (by simp [results, Try.results50, go_sem, r0, r1]) rfl ?_
              show FPost _ _ _ _ _ _
              rw [HEC.out]
              exact ⟨(WQ.out.1.setCell (by simp; omega) _).setCell (by simp; omega) _, _, _, rfl, Own.nil _ _, Own.nil _ _, .inl rfl⟩
          · have kn : k = n := by omega
            subst kn
            have EC : Pl.firstG (Pl.pairF F) (xs.zip ys) = 0 := Pl.firstG_zero (Pl.pairF F) (xs.zip ys) (by
              have := hz.out
              rw [Pl.zipT_all _ _ _ (by rw [Hn.out]; exact Nat.le_refl _)] at this
              exact this)
            rw [PC.out] at EC
            have e := PE.out
            rw [if_pos EC] at e
            simp only [Prod.mk.injEq] at e
            have OD : Hid (wr.ownsRow w2.heap.size 3 1 (.slice xo k yo) k (D.map (Value.int .i64))) := by
              have := ho.out
              rw [Pl.zipT_all _ _ _ (by rw [Hn.out]; exact Nat.le_refl _), e.2.2] at this
              exact this
            have HE := hideP e
            have p0 : wr.cell? ⟨w2.heap.size + 1, 0, none⟩ = some (.slice xz sx.length yz) := cell_blk hP.out
            have p1 : wr.cell? ⟨w2.heap.size + 1, 1, none⟩ = some (.slice xo k yo) := cell_blk hP.out
            have r0 := WR.out.2.2.2.1.1
            have r1 := WR.out.2.2.2.1.2.1
            have f2 := WR.out.2.2.2.1.2.2
            clear EC e
            go_wp2_with fail
            refine bodyPost_ret (v := .tuple #[.agg #[.slice xz sx.length yz, .slice xo k yo], .int .i64 0]) (by simp [results, Try.results50, go_sem, r0, r1]) rfl ?_
            show FPost _ _ _ _ _ _
            rw [← HE.out.1, ← HE.out.2.1]
            refine ⟨(WR.out.1.setCell (by simp; omega) _).setCell (by simp; omega) _, _, _, rfl, ?_, ?_, ?_⟩
            · have := HO2.out.base (show w.heap.size + 1 + 1 + 1 ≤ w1.heap.size by have := W1.out.2.1; omega)
              have k2 : Own (w.heap.size + 1 + 1 + 1) wr (.slice xz sx.length yz) sx := by
                obtain ⟨q, p, e, h⟩ := this
                refine ⟨q, p, e, ?_⟩
                rcases h with h | ⟨g, of, g1', g2', g3, g4⟩
                · exact .inl h
                · exact .inr ⟨g, of, g1', by omega, g3, fun i hi => ⟨(hbel.out.cell (p := ⟨g, of + i, none⟩) g2').trans (g4 i hi).1, (hbel.out.frozen (p := ⟨g, of + i, none⟩) g2').trans (g4 i hi).2⟩⟩
              exact Own.base (Own.store (Own.store k2 (by omega) _) (by omega) _) (by omega)
            · have := (own_of_any OD.out).base (show w.heap.size + 1 + 1 + 1 ≤ w2.heap.size by omega)
              exact Own.base (Own.store (Own.store this (by omega) _) (by omega) _) (by omega)
            · refine apart_right (B := w2.heap.size) (own_of_any OD.out) ?_
              exact HO2.out.lt
      · have K : Calls Try.prog 67 #[.slice x0 sx.length y0, .slice x2 sy.length y2] wc fun e w' => e = .returned (.bool false) ∧ Below wc.heap.size wc w' := by
          have := l2Same_any _ _ sx sy wc (by omega) (by omega) W.out.2.2.2.2.1 W.out.2.2.2.2.2.2.1
          rw [decide_eq_false hs] at this
          exact this
        have HK := hideP K
        have e := E.out.2.2
        unfold Pl.eachM at e
        rw [if_neg (fun h => h hlen), if_pos hs] at e
        simp only [Prod.mk.injEq] at e
        obtain ⟨rfl, rfl, rfl⟩ := e
        clear K hlen hs
        go_wp2_with fail
        refine HK.out.mono ?_
        rintro e w1 ⟨rfl, hb1⟩
        have W1 := hideP (W.out.keep hb1)
        clear c0 c2 r0 r1 f2 hb1
        have r0 := W1.out.2.2.2.1.1
        have r1 := W1.out.2.2.2.1.2.1
        have f2 := W1.out.2.2.2.1.2.2
        go_wp2_with fail
        refine bodyPost_ret (v := .tuple #[.agg #[.slice none 0 0, .slice none 0 0], .int .i64 3]) (by simp [results, Try.results50, go_sem, r0, r1]) rfl ⟨(W1.out.1.setCell (by simp; omega) _).setCell (by simp; omega) _, _, _, rfl, Own.nil _ _, Own.nil _ _, .inl rfl⟩
    · have test : ((sx.length : Int) != (sy.length : Int)) = true := by rw [bne_iff_ne]; omega
      have e := E.out.2.2
      unfold Pl.eachM at e
      rw [if_pos hlen] at e
      simp only [Prod.mk.injEq] at e
      obtain ⟨rfl, rfl, rfl⟩ := e
      clear hlen
      go_wp2_with fail
      refine bodyPost_ret (v := .tuple #[.agg #[.slice none 0 0, .slice none 0 0], .int .i64 2]) (by simp [results, Try.results50, go_sem, r0, r1]) rfl ⟨(W.out.1.setCell (by simp; omega) _).setCell (by simp; omega) _, _, _, rfl, Own.nil _ _, Own.nil _ _, .inl rfl⟩

end Go.Proofs.Ytmobjomebmipdaa
