import Derived.Test.YtaikmbfdhecjoaaGreatImpl2c
import Derived.Test.YtaikmbfdhecjoaaGreatEach2
import Derived.Test.YtaikmbfdhecjoaaGreatRed
import Derived.Test.YtaikmbfdhecjoaaGreatPlain6
import Derived.Deep.DeepCutAuto
import Derived.Test.YtaikmbfdhecjoaaGreatPlI
import Derived.Test.YtaikmbfdhecjoaaGreatFirst2
import Derived.Test.YtaikmbfdhecjoaaGreatLies
import Derived.Test.YtaikmbfdhecjoaaGreatImpR
import Derived.Test.YtaikmbfdhecjoaaGreatSumA
import Derived.Test.YtaikmbfdhecjoaaGreatFold
namespace Go.Proofs.YtaikmbfdhecjoaaGreat
open Go.RowKit
set_option linter.unusedVariables false

set_option maxRecDepth 100000 in
set_option maxHeartbeats 4000000 in
/-- impl.Each2's closure -/
theorem e2c_all (pa pb po : Nat) (op : Int) (v0 v1 v2 v3 : Value) (sa da sb db : List Int) (w : World) (hl0 : sa.length ≤ 1048576) (hl1 : da.length ≤ 1048576) (hl2 : sb.length ≤ 1048576) (hl3 : db.length ≤ 1048576) (h0 : Rd w.heap.size w v0 sa) (h1 : Rd w.heap.size w v1 da) (h2 : Rd w.heap.size w v2 sb) (h3 : Rd w.heap.size w v3 db)
    (ca0 : w.cell? ⟨pa, 0, none⟩ = some v0) (ca1 : w.cell? ⟨pa, 1, none⟩ = some v1) (cb0 : w.cell? ⟨pb, 0, none⟩ = some v2) (cb1 : w.cell? ⟨pb, 1, none⟩ = some v3) (co : w.cell? ⟨po, 0, none⟩ = some (.int .i64 op)) (M : List Int → List Int → List Int → List Int → Int × List Int × List Int) (c : Int) (S D : List Int) (hres : Pl.dyM M op sa da sb db = (c, S, D))
    (hk : ∀ k : Nat, op = k → 1 ≤ k → k < 11 → Pl.okB sa da = true → Pl.okB sb db = true → M sa da sb db = (c, S, D) → ∀ w', Below w.heap.size w w' → Calls Tryz.prog 38 #[opV k, .agg #[v0, v1], .agg #[v2, v3]] w' (KPost w' c S D)) :
    Calls Tryz.prog 37 #[.pointer (some ⟨pa, 0, none⟩), .pointer (some ⟨pb, 0, none⟩), .pointer (some ⟨po, 0, none⟩)] w (KPost w c S D) := by
  have hpa := World.block_lt_of_cell? w ⟨pa, 0, none⟩ ca0
  have hpb := World.block_lt_of_cell? w ⟨pb, 0, none⟩ cb0
  have hpo := World.block_lt_of_cell? w ⟨po, 0, none⟩ co
  simp only at hpa hpb hpo
  have A : Hid (∀ o, Below w.heap.size w (w.alloc o)) := fun o => (Below.refl _ _).alloc (Nat.le_refl _) _
  have K := hideP (valid2_new v0 v1 v2 v3 sa da sb db w hl0 hl1 hl2 hl3 h0 h1 h2 h3)
  have HKK := hideP hk
  have HR := hideP hres
  obtain ⟨a0, d0, e0⟩ := h0.form
  obtain ⟨a1, d1, e1⟩ := h1.form
  obtain ⟨a2, d2, e2⟩ := h2.form
  obtain ⟨a3, d3, e3⟩ := h3.form
  subst e0
  subst e1
  subst e2
  subst e3
  clear h0 h1 h2 h3 hk hres
  have ne : ¬ pa = w.heap.size := by omega
  have ne2 : ¬ pb = w.heap.size := by omega
  go_enter Tryz.func37, Tryz.ntmps37
  go_wp2_with fail
  refine (K.out _ _).mono ?_
  rintro e w1 ⟨hb, ⟨hq, rfl⟩ | ⟨hq, rfl⟩⟩
  · have hb' := (A.out (.cells #[.slice none 0 0, .slice none 0 0] 25)).trans (hb.mono (by omega))
    have hs := hb.size
    simp at hs
    have B1 := hideP hb'.drew
    have HQ := hideP hq
    have CR : Hid (w1.drew.cell? ⟨w.heap.size, 0, none⟩ = some (.slice none 0 0) ∧ w1.drew.cell? ⟨w.heap.size, 1, none⟩ = some (.slice none 0 0) ∧ ∀ o, w1.drew.frozen? ⟨w.heap.size, o, none⟩ = false) :=
      ⟨(hb.cell (p := ⟨w.heap.size, 0, none⟩) (by show w.heap.size < _; omega)).trans (by simp [go_sem]), (hb.cell (p := ⟨w.heap.size, 1, none⟩) (by show w.heap.size < _; omega)).trans (by simp [go_sem]), fun o => (hb.frozen (p := ⟨w.heap.size, o, none⟩) (by show w.heap.size < _; omega)).trans (by simp [go_sem])⟩
    have L0 : ∀ w', Below w.heap.size w w' → w'.cell? ⟨po, 0, none⟩ = some (.int .i64 op) := fun w' h => (h.cell (p := ⟨po, 0, none⟩) hpo).trans co
    have L1 : ∀ w', Below w.heap.size w w' → w'.cell? ⟨pa, 0, none⟩ = some (.slice a0 sa.length d0) := fun w' h => (h.cell (p := ⟨pa, 0, none⟩) hpa).trans ca0
    have L2 : ∀ w', Below w.heap.size w w' → w'.cell? ⟨pa, 1, none⟩ = some (.slice a1 da.length d1) := fun w' h => (h.cell (p := ⟨pa, 1, none⟩) hpa).trans ca1
    have L3 : ∀ w', Below w.heap.size w w' → w'.cell? ⟨pb, 0, none⟩ = some (.slice a2 sb.length d2) := fun w' h => (h.cell (p := ⟨pb, 0, none⟩) hpb).trans cb0
    have L4 : ∀ w', Below w.heap.size w w' → w'.cell? ⟨pb, 1, none⟩ = some (.slice a3 db.length d3) := fun w' h => (h.cell (p := ⟨pb, 1, none⟩) hpb).trans cb1
    clear hb hb' ca0 ca1 cb0 cb1 co hq K
    go_wp2_with fail
    refine wp_region_held (S := fun w' => Below w.heap.size w w') (by kernel_rfl) ?_
    change wpAnyH _ _ _ _ _ _ _ _ (World.drew _)
    refine wpAnyH_take (i := 0) (v := .int .i64 op) rfl (by kernel_rfl) (by kernel_rfl) (by kernel_rfl) (fun _ _ _ h => h) (Or.inl ⟨by rfl, ?_⟩) B1.out ?_
    · intro w' hS
      have := L0 w' hS
      clear L0 L1 L2 L3 L4 hS
      go_simp
    refine wpAnyH_take (i := 2) (v := .agg #[.slice a0 sa.length d0, .slice a1 da.length d1]) rfl (by kernel_rfl) (by kernel_rfl) (by kernel_rfl) (fun _ _ _ h => h) (Or.inl ⟨by rfl, ?_⟩) B1.out ?_
    · intro w' hS
      have := L1 w' hS
      have := L2 w' hS
      clear L0 L1 L2 L3 L4 hS
      go_simp
    refine wpAnyH_take (i := 3) (v := .agg #[.slice a2 sb.length d2, .slice a3 db.length d3]) rfl (by kernel_rfl) (by kernel_rfl) (by kernel_rfl) (fun _ _ _ h => h) (Or.inl ⟨by rfl, ?_⟩) B1.out ?_
    · intro w' hS
      have := L3 w' hS
      have := L4 w' hS
      clear L0 L1 L2 L3 L4 hS
      go_simp
    clear L0 L1 L2 L3 L4
    refine wpAnyH_ready (rs := [1]) (by kernel_rfl) (by simp) ?_
    refine AllReadyH.cons rfl (fun K hK => ?_) AllReadyH.nil
    go_simp
    by_cases hop : 1 ≤ op ∧ op < 11
    · obtain ⟨k, rfl⟩ := Int.eq_ofNat_of_zero_le (show 0 ≤ op by omega)
      have e := HR.out
      rw [Pl.dyM_yes ⟨hop.1, hop.2, HQ.out.1, HQ.out.2⟩] at e
      have HK2 := hideP (HKK.out k rfl (by omega) (by omega) HQ.out.1 HQ.out.2 e)
      have hk0 : 1 ≤ k := by omega
      have hk1 : k < 11 := by omega
      clear HKK HR e hop
      refine (opOf_yes k _ hk0 hk1).mono ?_
      rintro e w2 ⟨rfl, hb2⟩
      have B2 := hideP (B1.out.trans (hb2.mono (by show _ ≤ w1.heap.size; omega)))
      have hs2 : w.heap.size + 1 ≤ w2.heap.size := by
        have := hb2.size
        have e : w1.drew.heap.size = w1.heap.size := rfl
        omega
      have C2 := hideP (And.intro ((hb2.cell (p := ⟨w.heap.size, 0, none⟩) hs).trans CR.out.1) (And.intro ((hb2.cell (p := ⟨w.heap.size, 1, none⟩) hs).trans CR.out.2.1) (fun o => (hb2.frozen (p := ⟨w.heap.size, o, none⟩) hs).trans (CR.out.2.2 o))))
      clear hb2
      refine hK.out _ _ B2.out (fun _ => ?_)
      clear hK
      refine wpAnyH_ready (rs := [4]) (by kernel_rfl) (by simp) ?_
      refine AllReadyH.cons rfl (fun K hK => ?_) AllReadyH.nil
      go_simp
      refine (HK2.out w2 B2.out).mono ?_
      rintro e w3 ⟨hb3, ⟨rfl, u0, u1, rfl, hres⟩ | ⟨hc, rfl, rfl, rfl⟩⟩
      · have B3 := hideP (B2.out.trans (hb3.mono (by omega)))
        have R3 := hideP hres
        obtain ⟨q0, q1, f2⟩ := C2.out
        have r0 : w3.cell? ⟨w.heap.size, 0, none⟩ = some (.slice none 0 0) := (hb3.cell (p := ⟨w.heap.size, 0, none⟩) (by show w.heap.size < _; omega)).trans q0
        have r1 : w3.cell? ⟨w.heap.size, 1, none⟩ = some (.slice none 0 0) := (hb3.cell (p := ⟨w.heap.size, 1, none⟩) (by show w.heap.size < _; omega)).trans q1
        have f3 : ∀ o, w3.frozen? ⟨w.heap.size, o, none⟩ = false := fun o => (hb3.frozen (p := ⟨w.heap.size, o, none⟩) (by show w.heap.size < _; omega)).trans (f2 o)
        obtain ⟨x0, y0, e0⟩ := hres.1.form
        obtain ⟨x1, y1, e1⟩ := hres.2.1.form
        subst e0
        subst e1
        clear hres hb3 q0 q1 f2
        refine hK.out _ _ B3.out (fun _ => ?_)
        clear hK
        refine wpAnyH_ready (rs := [5]) (by kernel_rfl) (by simp) ?_
        refine AllReadyH.cons rfl (fun K hK => ?_) AllReadyH.nil
        go_simp
        refine hK.out _ _ ((B3.out.setCell (by simp) _).setCell (by simp) _) (fun _ => ?_)
        clear hK
        refine wpAnyH_done (by kernel_rfl) ?_ _
        go_wp2_with fail
        refine bodyPost_ret (v := .agg #[.slice x0 S.length y0, .slice x1 D.length y1]) (by simp [results, Tryz.results37, go_sem, r0, r1]) rfl ⟨(B3.out.setCell (by simp) _).setCell (by simp) _, .inl ⟨rfl, _, _, rfl, ?_, ?_, R3.out.2.2⟩⟩
        · exact Own.base (Own.store (Own.store R3.out.1 (by omega) _) (by omega) _) (by omega)
        · exact Own.base (Own.store (Own.store R3.out.2.1 (by omega) _) (by omega) _) (by omega)
      · exact ⟨rfl, B2.out.trans (hb3.mono (by omega)), .inr ⟨hc, rfl, rfl, rfl⟩⟩
    · have e := HR.out
      rw [Pl.dyM_no (by intro h; exact hop ⟨h.1, h.2.1⟩)] at e
      simp only [Prod.mk.injEq] at e
      obtain ⟨rfl, rfl, rfl⟩ := e
      refine (opOf_no op _ (by omega)).mono ?_
      rintro e w2 ⟨rfl, hb2⟩
      exact ⟨rfl, B1.out.trans (hb2.mono (by show _ ≤ w1.heap.size; omega)), .inr ⟨by decide, rfl, rfl, rfl⟩⟩
  · have e := HR.out
    rw [Pl.dyM_no (by intro h; exact hq ⟨h.2.2.1, h.2.2.2⟩)] at e
    simp only [Prod.mk.injEq] at e
    obtain ⟨rfl, rfl, rfl⟩ := e
    exact ⟨rfl, (A.out _).trans (hb.mono (by omega)), .inr ⟨by decide, rfl, rfl, rfl⟩⟩

set_option maxRecDepth 100000 in
set_option maxHeartbeats 1000000 in
/-- impl.Each2 -/
theorem each2_face (op : Int) (v0 v1 v2 v3 : Value) (sa da sb db : List Int) (w : World) (hl0 : sa.length ≤ 1048576) (hl1 : da.length ≤ 1048576) (hl2 : sb.length ≤ 1048576) (hl3 : db.length ≤ 1048576) (h0 : Rd w.heap.size w v0 sa) (h1 : Rd w.heap.size w v1 da) (h2 : Rd w.heap.size w v2 sb) (h3 : Rd w.heap.size w v3 db)
    (c : Int) (S D : List Int) (hres : Pl.dyM (Pl.each2M (Pl.twoM op)) op sa da sb db = (c, S, D)) :
    Calls Tryz.prog 13 #[.int .i64 op, .agg #[v0, v1], .agg #[v2, v3]] w (FPost w c S D) := by
  have hmf : ∀ (fn : Fn) (first cap : Array Value) (w : World), (Instr.makeFunc fn first cap).run Tryz.prog w = .ok (.func fn first cap) w := fun _ _ _ _ => rfl
  have K : Hid (∀ pa pb po w', Below w.heap.size w w' → w'.cell? ⟨pa, 0, none⟩ = some v0 → w'.cell? ⟨pa, 1, none⟩ = some v1 → w'.cell? ⟨pb, 0, none⟩ = some v2 → w'.cell? ⟨pb, 1, none⟩ = some v3 → w'.cell? ⟨po, 0, none⟩ = some (.int .i64 op) → Calls Tryz.prog 37 #[.pointer (some ⟨pa, 0, none⟩), .pointer (some ⟨pb, 0, none⟩), .pointer (some ⟨po, 0, none⟩)] w' (KPost w' c S D)) :=
    fun pa pb po w' hb g0 g1 g2 g3 g4 => e2c_all pa pb po op v0 v1 v2 v3 sa da sb db w' hl0 hl1 hl2 hl3 ((h0.keep hb).up hb.size) ((h1.keep hb).up hb.size) ((h2.keep hb).up hb.size) ((h3.keep hb).up hb.size) g0 g1 g2 g3 g4 _ c S D hres
      (fun k hk k0 k1 oka okb e w'' hb' => by
        subst hk
        have hb2 := hb.trans (hb'.mono hb.size)
        exact each2_impl (58 + k) (Pl.noneV k) (Pl.noneB k) (Pl.twoM k) v0 v1 v2 v3 sa da sb db w'' hl1 hl3 (callF2 k k0 k1) (fun x y w3 g0 g1 g2 g3 => cell2_any k x y w3 k0 k1 g0 g1 g2 g3) ((h0.keep hb2).up hb2.size) ((h1.keep hb2).up hb2.size) ((h2.keep hb2).up hb2.size) ((h3.keep hb2).up hb2.size) oka okb c S D e)
  obtain ⟨a0, d0, e0⟩ := h0.form
  obtain ⟨a1, d1, e1⟩ := h1.form
  obtain ⟨a2, d2, e2⟩ := h2.form
  obtain ⟨a3, d3, e3⟩ := h3.form
  subst e0
  subst e1
  subst e2
  subst e3
  clear h0 h1 h2 h3 hres
  go_enter Tryz.func13, Tryz.ntmps13
  go_wp2_with fail
  refine (answer_any 37 _ c S D _ (callF51 _) ?_).mono ?_
  · refine K.out (w.heap.size + 1) (w.heap.size + 1 + 1) w.heap.size _ ?_ ?_ ?_ ?_ ?_ ?_
    · exact ((((((Below.refl _ _).alloc (Nat.le_refl _) _).alloc (by simp) _).alloc (by simp; omega) _).alloc (by simp; omega) _).alloc (by simp; omega) _).alloc (by simp; omega) _
    · simp [go_sem]
    · simp [go_sem]
    · simp [go_sem]
    · simp [go_sem]
    · simp [go_sem]
  rintro e w1 ⟨hb1, u0, u1, rfl, hres⟩
  have B0 : Hid (Below w.heap.size w w1) := (((((Below.refl _ _).alloc (Nat.le_refl _) _).alloc (by simp) _).alloc (by simp; omega) _).alloc (by simp; omega) _).trans (hb1.mono (by simp; omega))
  have hs := hb1.size
  simp at hs
  obtain ⟨hc, hf⟩ := bcell hb1
  have r0 : w1.cell? ⟨w.heap.size + 1 + 1 + 1, 0, none⟩ = some (.slice none 0 0) := by rw [hc (w.heap.size + 1 + 1 + 1) 0 (by simp)]; simp [go_sem]
  have r1 : w1.cell? ⟨w.heap.size + 1 + 1 + 1, 1, none⟩ = some (.slice none 0 0) := by rw [hc (w.heap.size + 1 + 1 + 1) 1 (by simp)]; simp [go_sem]
  have f3 : ∀ o, w1.frozen? ⟨w.heap.size + 1 + 1 + 1, o, none⟩ = false := fun o => by rw [hf (w.heap.size + 1 + 1 + 1) o (by simp)]; simp [go_sem]
  have R : Hid (Res (w.heap.size + 1 + 1 + 1 + 1) w1 u0 u1 S D) := by
    have := hres
    show Res _ _ _ _ _ _
    simpa using this
  obtain ⟨x0, y0, e0⟩ := hres.1.form
  obtain ⟨x1, y1, e1⟩ := hres.2.1.form
  subst e0
  subst e1
  clear hc hf hb1 hres K
  go_wp2_with fail
  refine bodyPost_ret (v := .tuple #[.agg #[.slice x0 S.length y0, .slice x1 D.length y1], .int .i64 c]) (by simp [results, Tryz.results13, go_sem, r0, r1]) rfl ⟨(B0.out.setCell (by simp; omega) _).setCell (by simp; omega) _, _, _, rfl, ?_, ?_, R.out.2.2⟩
  · exact Own.base (Own.store (Own.store R.out.1 (by omega) _) (by omega) _) (by omega)
  · exact Own.base (Own.store (Own.store R.out.2.1 (by omega) _) (by omega) _) (by omega)

end Go.Proofs.YtaikmbfdhecjoaaGreat

namespace Go.Proofs.YtaikmbfdhecjoaaGreat
open Go.RowKit
set_option linter.unusedVariables false

/-- a slice of known address and capacity -/
def Frm (v : Value) (n : Nat) : Prop := ∃ g cap, v = .slice (some ⟨g, 0, none⟩) n cap ∧ n ≤ cap ∧ cap ≤ 9223372036854775807

theorem Frm.succ {base n : Nat} {w : World} {v : Value} {xs : List Value} (h : w.ownsRow base 3 1 v (n + 1) xs) : Frm v (n + 1) := by
  rcases h.2 with ⟨_, h⟩ | ⟨g, cp, cur, h, _, _, h1, h2, _⟩
  · omega
  · unfold maxLen at h2
    exact ⟨g, cp, h, h1, by omega⟩

end Go.Proofs.YtaikmbfdhecjoaaGreat

namespace Go.Proofs.YtaikmbfdhecjoaaGreat
open Go.RowKit
set_option linter.unusedVariables false

namespace Pl
/-- what comes of one cell -/
theorem cell_cases (F G : Int → Int → Int × Int) (nv : Int) (nb : Bool) {da db : List Int} {n H T i k : Nat} (hn : n ≤ 1000) (hla : da.length = H * n) (hlb : db.length = n * T) (hi : i < H) (hk : k < T)
    (hGb : ∀ x y, -3000000000 ≤ x → x ≤ 3000000000 → -3000000000 ≤ y → y ≤ 3000000000 → (G x y).2 = 0 → -3000000000 ≤ (G x y).1 ∧ (G x y).1 ≤ 3000000000)
    (ha : ∀ x ∈ da, -3000000000 ≤ x ∧ x ≤ 3000000000) (hb : ∀ x ∈ db, -3000000000 ≤ x ∧ x ≤ 3000000000) :
    okB [(n : Int)] (rowAt da n i) = true ∧ okB [(n : Int)] (innV db n T k) = true ∧
    ((∃ D1 v, each2M G [(n : Int)] (rowAt da n i) [(n : Int)] (innV db n T k) = (0, [(n : Int)], D1) ∧ okB [(n : Int)] D1 = true ∧ reduceM F nv nb [(n : Int)] D1 = (0, [], [v]) ∧ innQ F nv nb G n T da db (i * T + k) = (v, 0)) ∨
     (∃ D1 c2, each2M G [(n : Int)] (rowAt da n i) [(n : Int)] (innV db n T k) = (0, [(n : Int)], D1) ∧ okB [(n : Int)] D1 = true ∧ ¬ c2 = 0 ∧ reduceM F nv nb [(n : Int)] D1 = (c2, [], []) ∧ (innQ F nv nb G n T da db (i * T + k)).2 = c2) ∨
     (∃ c1, ¬ c1 = 0 ∧ each2M G [(n : Int)] (rowAt da n i) [(n : Int)] (innV db n T k) = (c1, [], []) ∧ (innQ F nv nb G n T da db (i * T + k)).2 = c1)) := by
  have hr : (i + 1) * n ≤ da.length := by rw [hla]; exact Nat.mul_le_mul_right n hi
  have o1 : okB [(n : Int)] (rowAt da n i) = true := ok_vec hn (rowAt_len hr) (fun x hx => ha x (rowAt_mem hx))
  have o2 : okB [(n : Int)] (innV db n T k) = true := ok_vec hn (innV_len db n T k) (fun x hx => hb x (innV_mem hlb hk hx))
  refine ⟨o1, o2, ?_⟩
  have eq : innQ F nv nb G n T da db (i * T + k) = innC F nv nb G n (rowAt da n i) (innV db n T k) := by
    unfold innQ
    rw [show (i * T + k) / T = i by rw [Nat.mul_comm, Nat.mul_add_div (by omega), Nat.div_eq_of_lt hk, Nat.add_zero], show (i * T + k) % T = k by rw [Nat.mul_comm, Nat.mul_add_mod, Nat.mod_eq_of_lt hk]]
  rw [eq, each2_rows G o1 o2]
  unfold innC
  by_cases h0 : firstG (pairF G) ((rowAt da n i).zip (innV db n T k)) = 0
  · rw [if_pos h0, if_pos h0]
    have o3 := ok_map G hGb o1 o2 h0
    have hl : (((rowAt da n i).zip (innV db n T k)).map (fun p => (pairF G p).1)).length = n := by
      simp [rowAt_len hr, innV_len]
    rcases reduce_vec F nv nb n _ hl with ⟨v, hv⟩ | ⟨c2, hc, hv⟩
    · exact .inl ⟨_, v, rfl, o3, hv, by rw [hv]; rfl⟩
    · exact .inr (.inl ⟨_, c2, rfl, o3, hc, hv, by rw [hv]⟩)
  · rw [if_neg h0, if_neg h0]
    exact .inr (.inr ⟨_, h0, rfl, rfl⟩)
end Pl

/-- all blocks but two are as they were -/
def Keep (w0 : World) (P : Nat) (row : Option Nat) (w : World) : Prop := w0.heap.size ≤ w.heap.size ∧ ∀ b, b < w0.heap.size → ¬ b = P → ¬ row = some b → w.heap[b]? = w0.heap[b]?

theorem Keep.refl (w0 : World) (P : Nat) (row : Option Nat) : Keep w0 P row w0 := ⟨Nat.le_refl _, fun _ _ _ _ => rfl⟩
theorem Keep.alloc {w0 w : World} {P : Nat} {row : Option Nat} (h : Keep w0 P row w) (o : Obj) : Keep w0 P row (w.alloc o) := by
  refine ⟨by have := h.1; simp; omega, fun b hb h1 h2 => ?_⟩
  rw [← h.2 b hb h1 h2]
  exact heap_alloc_old w o (by have := h.1; omega)
theorem Keep.grown {w0 w w' : World} {P : Nat} {row : Option Nat} (h : Keep w0 P row w) (hg : w.grownBy w' row) : Keep w0 P row w' := by
  refine ⟨Nat.le_trans h.1 hg.size, fun b hb h1 h2 => ?_⟩
  rw [← h.2 b hb h1 h2]
  exact hg.block b (by have := h.1; omega) (fun e => h2 e.symm)
theorem Keep.set {w0 w : World} {P o : Nat} {row : Option Nat} (h : Keep w0 P row w) (v : Value) : Keep w0 P row (w.setCell ⟨P, o, none⟩ v) := by
  refine ⟨by simpa using h.1, fun b hb h1 h2 => ?_⟩
  rw [← h.2 b hb h1 h2]
  exact heap_setCell_other _ _ _ _ h1
theorem Keep.cell {w0 w : World} {P b o : Nat} {row : Option Nat} {v : Value} (h : Keep w0 P row w) (h1 : ¬ b = P) (h2 : ¬ row = some b) (hc : w0.cell? ⟨b, o, none⟩ = some v) : w.cell? ⟨b, o, none⟩ = some v := by
  have hb := World.block_lt_of_cell? w0 _ hc
  have := h.2 b hb h1 h2
  rw [← hc]
  exact World.cell?_of_block this

end Go.Proofs.YtaikmbfdhecjoaaGreat

namespace Go.Proofs.YtaikmbfdhecjoaaGreat
open Go.RowKit
set_option linter.unusedVariables false

namespace Pl
/-- the cells so far, and zeros -/
def upI (Q : Nat → Int × Int) (N a : Nat) : List Int := (List.range a).map (fun j => (Q j).1) ++ List.replicate (N - a) 0
theorem upI_zero (Q : Nat → Int × Int) (N : Nat) : upI Q N 0 = List.replicate N 0 := by simp [upI]
theorem upI_all (Q : Nat → Int × Int) (N : Nat) : upI Q N N = (List.range N).map (fun j => (Q j).1) := by simp [upI]
theorem upI_len (Q : Nat → Int × Int) {N a : Nat} (h : a ≤ N) : (upI Q N a).length = N := by simp [upI]; omega
theorem upI_step (Q : Nat → Int × Int) {N a : Nat} (h : a < N) : (upI Q N a).set a (Q a).1 = upI Q N (a + 1) := by
  unfold upI
  rw [List.set_append_right _ _ (by simp), List.range_succ, List.map_append]
  have e : N - a = (N - (a + 1)) + 1 := by omega
  rw [e, List.replicate_succ]
  simp
end Pl

theorem wrap_ok (x : Int) (h0 : -9223372036854775808 ≤ x) (h1 : x ≤ 9223372036854775807) : IntKind.i64.wrap x = x := by
  rw [IntKind.wrap_i64]
  omega

theorem box_op {w w1 : World} {x0 x1 x2 : Value} {o' : Obj} (hb : Below (w.heap.size + 1) ((w.alloc (.cells #[x0, x1, x2] 49)).alloc o') w1) :
    w1.cell? ⟨w.heap.size, 0, none⟩ = some x0 ∧ w1.cell? ⟨w.heap.size, 1, none⟩ = some x1 ∧ w1.cell? ⟨w.heap.size, 2, none⟩ = some x2 := by
  refine ⟨?_, ?_, ?_⟩
  · rw [hb.cell (p := ⟨w.heap.size, 0, none⟩) (by show w.heap.size < _; omega)]; simp [go_sem]
  · rw [hb.cell (p := ⟨w.heap.size, 1, none⟩) (by show w.heap.size < _; omega)]; simp [go_sem]
  · rw [hb.cell (p := ⟨w.heap.size, 2, none⟩) (by show w.heap.size < _; omega)]; simp [go_sem]

end Go.Proofs.YtaikmbfdhecjoaaGreat
