import Derived.Test.YtljkolffjjhgeaaGreatDoorSpr
import Derived.Test.YtljkolffjjhgeaaGreatDoorPrg
import Derived.Test.YtljkolffjjhgeaaGreatDoorSzp
import Derived.Test.YtljkolffjjhgeaaGreatDoorSmp
import Derived.Test.YtljkolffjjhgeaaGreatDoorEqt
import Derived.ProofKit
import Derived.OpenShut
import Derived.ChangeOld
import Derived.Lib.SmallJoins
import Derived.Deep.SlicePairs
namespace Go.Proofs.YtljkolffjjhgeaaGreatDoor
open Go.RowKit
set_option linter.unusedVariables false
set_option maxRecDepth 100000
theorem Pl.sz_small {c : List Pl.Sv} (h : Pl.Small c) : Pl.Sz c := ⟨h.len, fun s hs => h.nums hs⟩
theorem Pl.szT_small {p : List Pl.Tv} (h : Pl.SmallP p) : Pl.SzT p := ⟨h.len, fun s hs => ⟨Pl.sz_small (h.st s hs).code, h.gl hs, fun g hg => ⟨Pl.sz_small ((h.st s hs).gs g hg).1, Pl.sz_small ((h.st s hs).gs g hg).2⟩⟩⟩
theorem XL.rdFr {B : Nat} {w : World} {ao : Option Addr} {c : List Pl.Tv} (h : XL QT 4 (Fr B w) w ao c) : RdP w.heap.size w ao c := (h.mv mT fun b hb => ⟨hb.2, fun _ => rfl⟩ : XL QT 4 (fun b => b < w.heap.size) w ao c).rdP
set_option maxHeartbeats 8000000 in
/-- laws.FnExactPrint -/
theorem print_law (p : List Pl.Tv) (ao : Option Addr) (cap mb mo cp : Nat) (w : World) (hk : Pl.okP' p) (he : Ev w mb mo cp) (hR : RdP w.heap.size w ao p) :
    Calls Tryz.prog 3 #[.slice ao p.length cap] w fun e w' => e = .returned (.bool true) ∧ Below w.heap.size w w' := by
  have K0 := hideP (szStmtS_any p ao cap 1048576 w hk (by omega) (by omega) hR)
  have HR := hideP hR
  have HE := hideP he
  by_cases g : Pl.sb 1048576 (Pl.wP p) < 0
  · clear hk he hR
    generalize Pl.sb 1048576 (Pl.wP p) = r at *
    generalize p.length = n at *
    go_enter Tryz.func3, Tryz.ntmps3
    go_wp2_with fail
    refine K0.out.mono ?_
    rintro e w1 ⟨rfl, hb1⟩
    go_wp2_with fail
    go_ret
    exact ⟨rfl, hb1⟩
  · have HS := hideP (Pl.small_sb g)
    have HZ := hideP (Pl.szT_small HS.out)
    have KT : Hid (∀ w', Below w.heap.size w w' → Calls Tryz.prog 6 #[.slice ao p.length cap] w' fun e w2 => e = .returned (.slice (some ⟨w'.heap.size, 0, none⟩) p.length p.length) ∧ Hid (RdP w2.heap.size w2 (some ⟨w'.heap.size, 0, none⟩) p) ∧ Hid (Below w.heap.size w w2) ∧ Hid (Below w'.heap.size w' w2)) := fun w' hw => by
      refine (toStmtS_any p ao cap w' HZ.out.1 HZ.out.2 ((HR.out.keep hw).up hw.size)).mono ?_
      rintro e w2 ⟨rfl, hx, hb, _⟩
      exact ⟨rfl, hx.rdFr, hw.trans (hb.mono hw.size), hb⟩
    have KS : Hid (∀ b w', RdP w'.heap.size w' b p → Below w.heap.size w w' → Calls Tryz.prog 5 #[.slice b p.length p.length] w' fun e w2 => e = .returned (.tuple #[.string (Pl.ba (Pl.prt Pl.nt p).1), .bool (Pl.prt Pl.nt p).2]) ∧ Hid (Below w.heap.size w w2)) := fun b w' h hw => by
      refine (specPrint_any p b p.length HS.out w' h).mono ?_
      rintro e w2 ⟨rfl, hb⟩
      exact ⟨rfl, hw.trans (hb.mono hw.size)⟩
    have KI : Hid (∀ b w', RdP w'.heap.size w' b p → Below w.heap.size w w' → Calls Tryz.prog 7 #[.slice b p.length p.length] w' fun e w2 => e = .returned (.tuple #[.string (Pl.ba (Pl.prt Pl.nt p).1), .bool (Pl.prt Pl.nt p).2]) ∧ Hid (Below w.heap.size w w2) ∧ Hid (RdP w2.heap.size w2 b p)) := fun b w' h hw => by
      refine (implPrint_any p b p.length mb mo cp HS.out w' (HE.out.keep hw) h).mono ?_
      rintro e w2 ⟨rfl, hb⟩
      exact ⟨rfl, hw.trans (hb.mono hw.size), (h.keep hb).up hb.size⟩
    have KQ : Hid (∀ b1 b2 w', RdP w'.heap.size w' b1 p → RdP w'.heap.size w' b2 p → Below w.heap.size w w' → Calls Tryz.prog 8 #[.slice b1 p.length p.length, .slice b2 p.length p.length] w' fun e w2 => e = .returned (.bool true) ∧ Hid (Below w.heap.size w w2)) := fun b1 b2 w' h1 h2 hw => by
      refine (eqStmtS_same p b1 b2 p.length p.length w' HZ.out.1 HZ.out.2 h1 h2).mono ?_
      rintro e w2 ⟨rfl, hb⟩
      exact ⟨rfl, hw.trans (hb.mono hw.size)⟩
    have KU : Hid (∀ b w' w2, RdP w'.heap.size w' b p → Below w'.heap.size w' w2 → RdP w2.heap.size w2 b p) := fun b w' w2 h hb => (h.keep hb).up hb.size
    clear hk he hR
    generalize Pl.sb 1048576 (Pl.wP p) = r at *
    generalize Pl.ba (Pl.prt Pl.nt p).1 = tx at *
    generalize (Pl.prt Pl.nt p).2 = ok at *
    clear HS HZ
    generalize p.length = n at *
    go_enter Tryz.func3, Tryz.ntmps3
    go_wp2_with fail
    refine K0.out.mono ?_
    rintro e w1 ⟨rfl, hb1⟩
    have B1 := hideP hb1
    clear hb1
    go_wp2_with fail
    refine (KT.out _ B1.out).mono ?_
    rintro e w2 ⟨rfl, R2, B2, C2⟩
    clear C2
    go_wp2_with fail
    refine (KS.out _ _ R2.out B2.out).mono ?_
    rintro e w3 ⟨rfl, B3⟩
    go_wp2_with fail
    refine (KT.out _ B3.out).mono ?_
    rintro e w4 ⟨rfl, R4, B4, C4⟩
    clear C4
    go_wp2_with fail
    refine (KI.out _ _ R4.out B4.out).mono ?_
    rintro e w5 ⟨rfl, B5, R5⟩
    have ee : (ok != ok) = false := by cases ok <;> rfl
    go_wp2_with fail
    refine (KT.out _ B5.out).mono ?_
    rintro e w6 ⟨rfl, R6, B6, C6⟩
    have R7 := hideP (KU.out _ _ _ R5.out C6.out)
    clear C6
    go_wp2_with fail
    refine (KQ.out _ _ _ R7.out R6.out B6.out).mono ?_
    rintro e w8 ⟨rfl, B8⟩
    go_wp2_with fail
    go_ret
    exact ⟨rfl, B8.out⟩
open Go.ChangeShapes Go.WideShapes Go.ChangeAt Go.RowKit Go.Joins
set_option linter.unusedVariables false
set_option maxRecDepth 100000
theorem Tryz.cells3 : Tryz.prog.cellsOf 3 = 1 := by kernel_rfl
theorem Tryz.cells9 : Tryz.prog.cellsOf 9 = 1 := by kernel_rfl
theorem Tryz.cells67 : Tryz.prog.cellsOf 67 = 1 := by kernel_rfl
theorem Tryz.cells31 : Tryz.prog.cellsOf 31 = 1 := by kernel_rfl
theorem Tryz.cells32 : Tryz.prog.cellsOf 32 = 1 := by kernel_rfl
theorem Tryz.cells69 : Tryz.prog.cellsOf 69 = 4 := by kernel_rfl
theorem Tryz.cells71 : Tryz.prog.cellsOf 71 = 7 := by kernel_rfl
theorem Tryz.cells74 : Tryz.prog.cellsOf 74 = 2 := by kernel_rfl
theorem Tryz.cells34 : Tryz.prog.cellsOf 34 = 4 := by kernel_rfl
/-- a slice that came in, element by element -/
theorem rows_of_trod {H : Type} {enc : TypeId × Value → H} {W : World} {held : Bool} {α : Type} (α0 : α) {t e : TypeId} {z : Nat} (hu : Tryz.prog.underlying t = some (.slice e)) (hz : Tryz.prog.cellsOf e = z) (h0z : 0 < z) (F : List Value → α → Prop)
    (hF : ∀ n cs y, DataW.trod enc Tryz.prog W 0 (fun _ => true) held n e cs = some y → ∃ s, F cs s) {n : Nat} {v : Value} {y : DataW H × List MemPlace} (h : DataW.trod enc Tryz.prog W 0 (fun _ => true) held n t [v] = some y) :
    ∃ (ao : Option Addr) (cap : Nat) (c : List α), v = .slice ao c.length cap ∧ c.length ≤ 9223372036854775807 ∧ (∀ s ∈ c, ∃ cs, F cs s) ∧ (c = [] ∨ ∃ b off, b < W.heap.size ∧ ao = some ⟨b, off, none⟩ ∧ ∀ (i : Nat) (s : α), c[i]? = some s → ∃ cs, F cs s ∧ ∀ j, j < z → W.cell? ⟨b, off + i * z + j, none⟩ = cs[j]?) := by
  rcases Go.Deep.open_slice hu h with ⟨hcs, _⟩ | ⟨a, len, cap, m, n', D, P, hcs, _, hl, hm, hmm, _, hx⟩
  · simp at hcs
    subst hcs
    exact ⟨none, 0, [], rfl, by simp, (fun s hs => by cases hs), .inl rfl⟩
  · simp at hcs
    subst hcs
    simp only [if_true] at hmm
    unfold maxLen at hm
    have each : ∀ i, ∃ s : α, i < len → ∃ cs, cs.length = z ∧ F cs s ∧ ∀ j, j < z → W.cell? (a.add (i * z + j)) = cs[j]? := by
      intro i
      by_cases hi : i < len
      · obtain ⟨cs', h1, h2⟩ := hx i (by omega)
        obtain ⟨s, hs⟩ := hF _ _ _ h2
        rw [hz] at h1
        obtain ⟨_, hlen, hcell⟩ := World.cells?_some h1
        refine ⟨s, fun _ => ⟨cs', hlen, hs, fun j hj => ?_⟩⟩
        have := hcell j hj
        rwa [Go.Deep.add_add] at this
      · exact ⟨α0, fun h => absurd h hi⟩
    obtain ⟨f, hf⟩ : ∃ f : Nat → α, ∀ i, i < len → ∃ cs, cs.length = z ∧ F cs (f i) ∧ ∀ j, j < z → W.cell? (a.add (i * z + j)) = cs[j]? := ⟨fun i => Classical.choose (each i), fun i => Classical.choose_spec (each i)⟩
    have hlen : ((List.range len).map f).length = len := by simp
    have hat : ∀ i s, ((List.range len).map f)[i]? = some s → i < len ∧ f i = s := by
      intro i s hs
      have hi : i < ((List.range len).map f).length := (List.getElem?_eq_some_iff.1 hs).1
      rw [hlen] at hi
      refine ⟨hi, ?_⟩
      simp [hi] at hs
      exact hs
    refine ⟨some a, cap, (List.range len).map f, by rw [hlen], by rw [hlen]; omega, fun s hs => ?_, ?_⟩
    · obtain ⟨i, hi, rfl⟩ := List.mem_map.1 hs
      obtain ⟨cs, _, h1, _⟩ := hf i (List.mem_range.1 hi)
      exact ⟨cs, h1⟩
    · by_cases h0 : len = 0
      · subst h0
        exact .inl rfl
      · obtain ⟨b, off, spot⟩ := a
        obtain ⟨cs, hl0, _, hc⟩ := hf 0 (by omega)
        have hc := hc 0 h0z
        rw [List.getElem?_eq_getElem (by omega)] at hc
        have hspot : spot = none := by simpa [Addr.add] using World.cell?_spot hc
        subst hspot
        refine .inr ⟨b, off, ?_, rfl, fun i s hi => ?_⟩
        · have := World.block_lt_of_cell? _ _ hc
          simpa [Addr.add] using this
        · obtain ⟨hlt, rfl⟩ := hat i s hi
          obtain ⟨cs, _, h1, h2⟩ := hf i hlt
          refine ⟨cs, h1, fun j hj => ?_⟩
          have := h2 j hj
          rw [Addr.add_lit] at this
          rw [Nat.add_assoc]
          exact this
section
variable {H : Type} {enc : TypeId × Value → H} {W : World} {held : Bool}
theorem nums_of_trod {n : Nat} {v : Value} {y : DataW H × List MemPlace} (h : DataW.trod enc Tryz.prog W 0 (fun _ => true) held n 67 [v] = some y) :
    ∃ (ao : Option Addr) (cap : Nat) (c : List Int), v = .slice ao c.length cap ∧ c.length ≤ 9223372036854775807 ∧ RdI W.heap.size W ao c := by
  obtain ⟨ao, cap, c, e, hl, _, hr⟩ := rows_of_trod (0 : Int) Tryz.underlying67 Tryz.cells3 (by decide) (fun cs x => cs = [.int .i64 x]) (fun n cs y h => by
    obtain ⟨x, e, _, _⟩ := DataW.trod_int Tryz.underlying3 h
    exact ⟨x, e⟩) h
  refine ⟨ao, cap, c, e, hl, ?_⟩
  rcases hr with hr | ⟨b, off, hb, ea, hc⟩
  · exact .inl hr
  · refine .inr ⟨b, off, hb, ea, fun i x hi => ?_⟩
    obtain ⟨cs, rfl, h1⟩ := hc i x hi
    simpa using h1 0 (by decide)
/-- how a step lies in its cells -/
def FS (W : World) (cs : List Value) (s : Pl.Sv) : Prop := Pl.okS s ∧ ∃ an cn, cs = [.int .i64 s.k, .slice an s.nums.length cn, .string (Pl.ba s.nm), .int .i64 s.fn.k, .int .i64 s.fn.a, .int .i64 s.fn.b, .string (Pl.ba s.fn.nm)] ∧ RdI W.heap.size W an s.nums
theorem step_of_trod {n : Nat} {cs : List Value} {y : DataW H × List MemPlace} (h : DataW.trod enc Tryz.prog W 0 (fun _ => true) held n 71 cs = some y) : ∃ s, FS W cs s := by
  obtain ⟨y0, y1, y2, y3, n, _, hl, h0, h1, h2, h3⟩ := trod_struct4 Tryz.underlying71 h
  rw [Tryz.cells71] at hl
  match cs, hl with
  | [c0, c1, c2, c3, c4, c5, c6], _ =>
    simp [Tryz.cells3, Tryz.cells9, Tryz.cells67, Tryz.cells69] at h0 h1 h2 h3
    obtain ⟨z0, z1, z2, z3, n2, _, _, g0, g1, g2, g3⟩ := trod_struct4 Tryz.underlying69 h3
    simp [Tryz.cells3, Tryz.cells9] at g0 g1 g2 g3
    obtain ⟨k, e0, _, _⟩ := DataW.trod_int Tryz.underlying3 h0
    obtain ⟨an, cn, l, rfl, hl, hr⟩ := nums_of_trod h1
    obtain ⟨s2, e2, _, z2⟩ := DataW.trod_string Tryz.underlying9 h2
    obtain ⟨fk, e3, _, _⟩ := DataW.trod_int Tryz.underlying3 g0
    obtain ⟨fa, e4, _, _⟩ := DataW.trod_int Tryz.underlying3 g1
    obtain ⟨fb, e5, _, _⟩ := DataW.trod_int Tryz.underlying3 g2
    obtain ⟨s6, e6, _, z6⟩ := DataW.trod_string Tryz.underlying9 g3
    simp at e0 e2 e3 e4 e5 e6
    unfold maxLen at z2 z6
    rw [Pl.sz_eq] at z2 z6
    exact ⟨⟨k, l, s2.data.toList, ⟨fk, fa, fb, s6.data.toList⟩⟩, ⟨hl, by simp only; omega, by simp only; omega⟩, an, cn, by rw [e0, e2, e3, e4, e5, e6]; rfl, hr⟩
theorem code_of_trod {n : Nat} {v : Value} {y : DataW H × List MemPlace} (h : DataW.trod enc Tryz.prog W 0 (fun _ => true) held n 31 [v] = some y) :
    ∃ (ao : Option Addr) (cap : Nat) (c : List Pl.Sv), v = .slice ao c.length cap ∧ Pl.okC c ∧ RdS W.heap.size W ao c := by
  obtain ⟨ao, cap, c, e, hl, ho, hr⟩ := rows_of_trod (⟨0, [], [], ⟨0, 0, 0, []⟩⟩ : Pl.Sv) Tryz.underlying31 Tryz.cells71 (by decide) (FS W) (fun n cs y h => step_of_trod h) h
  refine ⟨ao, cap, c, e, ⟨hl, fun s hs => (ho s hs).choose_spec.1⟩, ?_⟩
  rcases hr with hr | ⟨b, off, hb, ea, hc⟩
  · exact .inl hr
  · refine .inr ⟨b, off, hb, ea, fun i s hi => ?_⟩
    obtain ⟨cs, ⟨_, an, cn, rfl, hr⟩, h1⟩ := hc i s hi
    exact ⟨an, cn, h1 0 (by decide), h1 1 (by decide), h1 2 (by decide), h1 3 (by decide), h1 4 (by decide), h1 5 (by decide), h1 6 (by decide), hr⟩
def FG (W : World) (cs : List Value) (s : Pl.Gv) : Prop := Pl.okG s ∧ ∃ a1 c1 a2 c2, cs = [.slice a1 s.test.length c1, .slice a2 s.thn.length c2] ∧ RdS W.heap.size W a1 s.test ∧ RdS W.heap.size W a2 s.thn
theorem guard_of_trod {n : Nat} {cs : List Value} {y : DataW H × List MemPlace} (h : DataW.trod enc Tryz.prog W 0 (fun _ => true) held n 74 cs = some y) : ∃ s, FG W cs s := by
  obtain ⟨y0, y1, n, _, hl, h0, h1⟩ := trod_struct2 Tryz.underlying74 h
  rw [Tryz.cells74] at hl
  match cs, hl with
  | [c0, c1], _ =>
    simp [Tryz.cells31] at h0 h1
    obtain ⟨a1, d1, l1, rfl, o1, r1⟩ := code_of_trod h0
    obtain ⟨a2, d2, l2, rfl, o2, r2⟩ := code_of_trod h1
    exact ⟨⟨l1, l2⟩, ⟨o1, o2⟩, a1, d1, a2, d2, rfl, r1, r2⟩
theorem guards_of_trod {n : Nat} {v : Value} {y : DataW H × List MemPlace} (h : DataW.trod enc Tryz.prog W 0 (fun _ => true) held n 32 [v] = some y) :
    ∃ (ao : Option Addr) (cap : Nat) (c : List Pl.Gv), v = .slice ao c.length cap ∧ Pl.okGs c ∧ RdG W.heap.size W ao c := by
  obtain ⟨ao, cap, c, e, hl, ho, hr⟩ := rows_of_trod (⟨[], []⟩ : Pl.Gv) Tryz.underlying32 Tryz.cells74 (by decide) (FG W) (fun n cs y h => guard_of_trod h) h
  refine ⟨ao, cap, c, e, ⟨hl, fun s hs => (ho s hs).choose_spec.1⟩, ?_⟩
  rcases hr with hr | ⟨b, off, hb, ea, hc⟩
  · exact .inl hr
  · refine .inr ⟨b, off, hb, ea, fun i s hi => ?_⟩
    obtain ⟨cs, ⟨_, a1, c1, a2, c2, rfl, r1, r2⟩, h1⟩ := hc i s hi
    exact ⟨a1, a2, c1, c2, h1 0 (by decide), h1 1 (by decide), r1, r2⟩
def FT (W : World) (cs : List Value) (s : Pl.Tv) : Prop := Pl.okT s ∧ ∃ a1 c1 a2 c2, cs = [.int .i64 s.k, .string (Pl.ba s.nm), .slice a1 s.code.length c1, .slice a2 s.gs.length c2] ∧ RdS W.heap.size W a1 s.code ∧ RdG W.heap.size W a2 s.gs
theorem stmt_of_trod {n : Nat} {cs : List Value} {y : DataW H × List MemPlace} (h : DataW.trod enc Tryz.prog W 0 (fun _ => true) held n 34 cs = some y) : ∃ s, FT W cs s := by
  obtain ⟨y0, y1, y2, y3, n, _, hl, h0, h1, h2, h3⟩ := trod_struct4 Tryz.underlying34 h
  rw [Tryz.cells34] at hl
  match cs, hl with
  | [c0, c1, c2, c3], _ =>
    simp [Tryz.cells3, Tryz.cells9, Tryz.cells31, Tryz.cells32] at h0 h1 h2 h3
    obtain ⟨k, e0, _, _⟩ := DataW.trod_int Tryz.underlying3 h0
    obtain ⟨s1, e1, _, z1⟩ := DataW.trod_string Tryz.underlying9 h1
    obtain ⟨a1, d1, l1, rfl, o1, r1⟩ := code_of_trod h2
    obtain ⟨a2, d2, l2, rfl, o2, r2⟩ := guards_of_trod h3
    simp at e0 e1
    unfold maxLen at z1
    rw [Pl.sz_eq] at z1
    exact ⟨⟨k, s1.data.toList, l1, l2⟩, ⟨by simp only; omega, o1, o2⟩, a1, d1, a2, d2, by rw [e0, e1]; rfl, r1, r2⟩
/-- a program that came in -/
theorem prog_of_trod {n : Nat} {v : Value} {y : DataW H × List MemPlace} (h : DataW.trod enc Tryz.prog W 0 (fun _ => true) held n 22 [v] = some y) :
    ∃ (ao : Option Addr) (cap : Nat) (c : List Pl.Tv), v = .slice ao c.length cap ∧ Pl.okP' c ∧ RdP W.heap.size W ao c := by
  obtain ⟨ao, cap, c, e, hl, ho, hr⟩ := rows_of_trod (⟨0, [], [], []⟩ : Pl.Tv) Tryz.underlying22 Tryz.cells34 (by decide) (FT W) (fun n cs y h => stmt_of_trod h) h
  refine ⟨ao, cap, c, e, ⟨hl, fun s hs => (ho s hs).choose_spec.1⟩, ?_⟩
  rcases hr with hr | ⟨b, off, hb, ea, hc⟩
  · exact .inl hr
  · refine .inr ⟨b, off, hb, ea, fun i s hi => ?_⟩
    obtain ⟨cs, ⟨_, a1, c1, a2, c2, rfl, r1, r2⟩, h1⟩ := hc i s hi
    exact ⟨a1, a2, c1, c2, h1 0 (by decide), h1 1 (by decide), h1 2 (by decide), h1 3 (by decide), r1, r2⟩
end
end Go.Proofs.YtljkolffjjhgeaaGreatDoor
