import Derived.Test.YtljkolffjjhgeaaDoorIle
import Derived.WalkMore
import Derived.Deep.LoopGhost
namespace Go.Proofs.YtljkolffjjhgeaaDoor
open Go.RowKit
set_option linter.unusedVariables false
set_option maxRecDepth 100000
/-- a token and whether it is one -/
def tkV (q : Pl.Itk × Bool) : Value := .tuple #[.agg #[.int .i64 q.1.k, .string q.1.tx, .int .i64 q.1.v], .bool q.2]
set_option maxHeartbeats 2000000 in
/-- impl.tokenOf -/
theorem tokenOf_any (x : ByteArray) (mb mo cp : Nat) (w : World) (hm : Mt w mb mo cp) (h0 : 0 < x.size) (hl : x.size ≤ 1048576) :
    Calls Tryd.prog 32 #[.string x] w fun e w' => e = .returned (tkV (Pl.tkI x)) ∧ Below w.heap.size w w' := by
  have hix : ∀ w, (Instr.index 9 (.string x) (.int .i64 0)).run Tryd.prog w = .ok (.int .u8 (Pl.bt x 0)) w := idx_str x 0 h0
  have HT : Hid (Pl.tkI x = if Pl.bt x 0 = 95 ∨ Pl.digI (Pl.bt x 0) = true then (⟨1, ⟨#[]⟩, (Pl.numS x).1⟩, (Pl.numS x).2)
    else if Pl.lttI (Pl.bt x 0) = true then (⟨Pl.wk x.data.toList, x, 0⟩, decide (¬ Pl.wk x.data.toList = 0))
    else if Pl.bt x 0 = 10 then (⟨4, ⟨#[59]⟩, 0⟩, true) else (⟨4, x, 0⟩, decide (Pl.bt x 0 ∈ Pl.sgL))) := rfl
  have K47 : Hid (∀ w, Calls Tryd.prog 47 #[.int .u8 (Pl.bt x 0)] w fun e w' => e = .returned (.bool (Pl.digI (Pl.bt x 0))) ∧ w' = w) := isDigit_any _
  have K48 : Hid (∀ w, Calls Tryd.prog 48 #[.string x] w fun e w' => e = .returned (.tuple #[.int .i64 (Pl.numS x).1, .bool (Pl.numS x).2]) ∧ w' = w) := fun w => numberOf_any x w h0 hl
  have K49 : Hid (∀ w, Calls Tryd.prog 49 #[.int .u8 (Pl.bt x 0)] w fun e w' => e = .returned (.bool (Pl.lttI (Pl.bt x 0))) ∧ w' = w) := isLetter_any _
  have BX : Hid (∀ o, Below w.heap.size w (w.alloc o)) := fun o => (Below.refl _ _).alloc (Nat.le_refl _) o
  have K50 : Hid (∀ o, Calls Tryd.prog 50 #[.string x] (w.alloc o) fun e w' => e = .returned (.int .i64 (Pl.wk x.data.toList)) ∧ Below (w.heap.size + 1) (w.alloc o) w') := fun o => by
    have h := wordKind_any x mb mo cp (w.alloc o) (hm.keep (BX.out o)) (by omega)
    simpa using h
  have K51 : Hid (∀ w, Calls Tryd.prog 51 #[.string x] w fun e w' => e = .returned (.string x) ∧ Below w.heap.size w w') := fun w => clone_any x w (by omega)
  have K30 : Hid (∀ w, Calls Tryd.prog 30 #[.string ⟨#[43, 45, 42, 37, 124, 60, 61, 62, 126, 40, 41, 123, 125, 58, 59, 47, 92, 64, 46]⟩, .int .u8 (Pl.bt x 0)] w fun e w' => ∃ k : Int, e = .returned (.int .i64 k) ∧ decide (0 ≤ k) = decide (Pl.bt x 0 ∈ Pl.sgL) ∧ w' = w) := fun w => by
    refine (Tryd.strings_IndexByte ⟨#[43, 45, 42, 37, 124, 60, 61, 62, 126, 40, 41, 123, 125, 58, 59, 47, 92, 64, 46]⟩ (Pl.bt x 0) w).mono ?_
    rintro e w' ⟨rfl, rfl⟩
    have hb := Pl.bt_lt x 0
    exact ⟨_, rfl, Pl.idx_sg (L := [43, 45, 42, 37, 124, 60, 61, 62, 126, 40, 41, 123, 125, 58, 59, 47, 92, 64, 46]) (M := Pl.sgL) (by decide) hb.1 hb.2, rfl⟩
  clear hm
  generalize Pl.numS x = N at *
  generalize Pl.wk x.data.toList = W at *
  generalize Pl.bt x 0 = c at *
  by_cases h95 : c = 95
  · subst h95
    have HR : Hid (Pl.tkI x = (⟨1, ⟨#[]⟩, N.1⟩, N.2)) := by show _ = _; rw [HT.out, if_pos (.inl rfl)]
    rw [HR.out]
    clear HR HT K49 K50 K51 K30
    obtain ⟨n, b⟩ := N
    go_enter Tryd.func32, Tryd.ntmps32
    go_wp2_with (first | (go_at_call 47; refine (K47.out _).mono ?_; rintro e w' ⟨rfl, rfl⟩) | (go_at_call 48; refine (K48.out _).mono ?_; rintro e w' ⟨rfl, rfl⟩))
    refine bodyPost_ret (v := tkV (⟨1, ⟨#[]⟩, n⟩, b)) (by simp [results, Tryd.results32, go_sem, tkV]) rfl ⟨rfl, BX.out _⟩
  · have h95' : (c == 95) = false := by simpa using h95
    cases hd : Pl.digI c
    · rw [hd] at K47
      cases hlt : Pl.lttI c
      · rw [hlt] at K49
        by_cases h10 : c = 10
        · subst h10
          have HR : Hid (Pl.tkI x = (⟨4, ⟨#[59]⟩, 0⟩, true)) := by show _ = _; rw [HT.out, hd, hlt]; rfl
          rw [HR.out]
          clear HR HT K48 K50 K51 K30 h95 hd hlt
          go_enter Tryd.func32, Tryd.ntmps32
          go_wp2_with (first | (go_at_call 47; refine (K47.out _).mono ?_; rintro e w' ⟨rfl, rfl⟩) | (go_at_call 49; refine (K49.out _).mono ?_; rintro e w' ⟨rfl, rfl⟩))
          refine bodyPost_ret (v := tkV (⟨4, ⟨#[59]⟩, 0⟩, true)) (by simp [results, Tryd.results32, go_sem, tkV]) rfl ⟨rfl, BX.out _⟩
        · have h10' : (c == 10) = false := by simpa using h10
          have HR : Hid (Pl.tkI x = (⟨4, x, 0⟩, decide (c ∈ Pl.sgL))) := by show _ = _; rw [HT.out, hd, hlt, if_neg (by simp [h95]), if_neg (by simp), if_neg h10]
          rw [HR.out]
          clear HR HT K48 K50 K51 h95 hd hlt h10
          generalize decide (c ∈ Pl.sgL) = b at *
          go_enter Tryd.func32, Tryd.ntmps32
          go_wp2_with (first | (go_at_call 47; refine (K47.out _).mono ?_; rintro e w' ⟨rfl, rfl⟩) | (go_at_call 49; refine (K49.out _).mono ?_; rintro e w' ⟨rfl, rfl⟩) | (go_at_call 30; refine (K30.out _).mono ?_; rintro e w' ⟨k, rfl, hkb, rfl⟩))
          refine bodyPost_ret (v := tkV (⟨4, x, 0⟩, b)) (by simp [results, Tryd.results32, go_sem, tkV]) rfl ⟨rfl, BX.out _⟩
      · rw [hlt] at K49
        have HR : Hid (Pl.tkI x = (⟨W, x, 0⟩, decide (¬ W = 0))) := by show _ = _; rw [HT.out, hd, hlt, if_neg (by simp [h95]), if_pos rfl]
        rw [HR.out]
        clear HR HT K48 K30 h95 hd hlt
        go_enter Tryd.func32, Tryd.ntmps32
        go_wp2_with (first | (go_at_call 47; refine (K47.out _).mono ?_; rintro e w' ⟨rfl, rfl⟩) | (go_at_call 49; refine (K49.out _).mono ?_; rintro e w' ⟨rfl, rfl⟩))
        refine (K50.out _).mono ?_
        rintro e w1 ⟨rfl, hb1⟩
        have B1 := hideP ((BX.out _).trans (hb1.mono (Nat.le_succ _)))
        have r0 := bcell hb1 (b := w.heap.size) (j := 0) (by omega) (by simp [go_sem]; rfl)
        have r1 := bcell hb1 (b := w.heap.size) (j := 1) (by omega) (by simp [go_sem]; rfl)
        have r2 := bcell hb1 (b := w.heap.size) (j := 2) (by omega) (by simp [go_sem]; rfl)
        have rf : ∀ j, w1.frozen? ⟨w.heap.size, j, none⟩ = false := fun j => bfroz hb1 (by omega) (by simp [go_sem])
        have hs1 : w.heap.size < w1.heap.size := by have := hb1.size; simp at this; omega
        clear hb1 BX
        go_wp2_with fail
        refine (K51.out _).mono ?_
        rintro e w2 ⟨rfl, hb2⟩
        have B2 := hideP (B1.out.trans (hb2.mono (by omega)))
        have q0 := bcell hb2 hs1 r0
        have q1 := bcell hb2 hs1 r1
        have q2 := bcell hb2 hs1 r2
        have qf : ∀ j, w2.frozen? ⟨w.heap.size, j, none⟩ = false := fun j => bfroz hb2 hs1 (rf j)
        clear hb2 r0 r1 r2 rf B1 K50 K51
        go_wp2_with fail
        have hfin : Below w.heap.size w (w2.setCells w.heap.size 0 [.int .i64 W, .string x, .int .i64 0]) := setCells_below _ (Nat.le_refl _) _ 0 _ B2.out
        refine bodyPost_ret (v := tkV (⟨W, x, 0⟩, decide (¬ W = 0))) (by simp [results, Tryd.results32, go_sem, tkV, q0, q1, q2]; rfl) rfl ⟨rfl, hfin⟩
    · rw [hd] at K47
      have HR : Hid (Pl.tkI x = (⟨1, ⟨#[]⟩, N.1⟩, N.2)) := by show _ = _; rw [HT.out, hd, if_pos (.inr rfl)]
      rw [HR.out]
      clear HR HT K49 K50 K51 K30 h95 hd
      obtain ⟨n, b⟩ := N
      go_enter Tryd.func32, Tryd.ntmps32
      go_wp2_with (first | (go_at_call 47; refine (K47.out _).mono ?_; rintro e w' ⟨rfl, rfl⟩) | (go_at_call 48; refine (K48.out _).mono ?_; rintro e w' ⟨rfl, rfl⟩))
      refine bodyPost_ret (v := tkV (⟨1, ⟨#[]⟩, n⟩, b)) (by simp [results, Tryd.results32, go_sem, tkV]) rfl ⟨rfl, BX.out _⟩
namespace Pl
def Itk.cells (t : Itk) : List Value := [.int .i64 t.k, .string t.tx, .int .i64 t.v]
def cellsI (l : List Itk) : List Value := l.flatMap Itk.cells
theorem cellsI_app (l : List Itk) (t : Itk) : cellsI (l ++ [t]) = cellsI l ++ t.cells := by simp [cellsI]
theorem fb_app : ∀ (l r : List Tok), (∀ t ∈ l, ¬ t.k = 120) → fb (l ++ r) = fb r
  | [], _, _ => rfl
  | t :: l, r, h => by
    show fb (t :: (l ++ r)) = _
    rw [fb, if_neg (h t (by simp)), fb_app l r (fun x hx => h x (by simp [hx]))]
theorem tok_pos (s : ByteArray) (i : Nat) : (tokAt s i).pos = i := by
  unfold tokAt
  repeat (split <;> try rfl)
def bL : List Int := [32, 9, 13]
theorem blank_mem (c : Int) : decide (c ∈ bL) = decide (blank c) := decide_eq_decide.2 (by simp [bL]; exact Iff.rfl)
end Pl
theorem el41 : El 41 68 3 := El.mk' (zr := .agg #[.int .i64 0, .string ByteArray.empty, .int .i64 0]) (bs := 32) Tryd.underlying41 (by kernel_rfl) rfl (by decide) (by decide)
/-- what tokensOf gives -/
def PoT (s : ByteArray) (w : World) (e : Ending) (w' : World) : Prop := match Pl.fb (Pl.lx s 0) with
  | some p => e = .returned (.tuple #[.slice none 0 0, .int .i64 p, .bool false]) ∧ Below w.heap.size w w'
  | none => ∃ ao cap, e = .returned (.tuple #[.slice ao (Pl.lx s 0).length cap, .int .i64 0, .bool true]) ∧ w'.ownsRow w.heap.size 68 3 (.slice ao (Pl.lx s 0).length cap) (Pl.lx s 0).length (Pl.cellsI ((Pl.lx s 0).map Pl.iTk)) ∧ Below w.heap.size w w'
theorem PoT.bad {s : ByteArray} {w w' : World} {p : Nat} {q : Int} (h : Pl.fb (Pl.lx s 0) = some p) (hq : q = p) (hb : Below w.heap.size w w') : PoT s w (.returned (.tuple #[.slice none 0 0, .int .i64 q, .bool false])) w' := by
  unfold PoT
  rw [h, hq]
  exact ⟨rfl, hb⟩
theorem PoT.good {s : ByteArray} {w w' : World} {l : List Pl.Tok} {ao : Option Addr} {cap n : Nat} (h : Pl.lx s 0 = l) (hg : ∀ t ∈ l, ¬ t.k = 120) (hn : l.length = n) (ho : w'.ownsRow w.heap.size 68 3 (.slice ao n cap) n (Pl.cellsI (l.map Pl.iTk))) (hb : Below w.heap.size w w') : PoT s w (.returned (.tuple #[.slice ao n cap, .int .i64 0, .bool true])) w' := by
  have hf : Pl.fb (Pl.lx s 0) = none := by
    have := Pl.fb_app l [] hg
    rw [List.append_nil] at this
    rw [h, this]
    rfl
  unfold PoT
  rw [hf, h]
  subst hn
  exact ⟨ao, cap, rfl, ho, hb⟩
set_option maxHeartbeats 4000000 in
/-- impl.tokensOf -/
theorem tokensOf_any (s : ByteArray) (mb mo cp : Nat) (w : World) (hm : Mt w mb mo cp) (hl : s.size ≤ 4000) :
    Calls Tryd.prog 12 #[.string s] w (PoT s w) := by
  have HX : Hid (∀ k, k < s.size → ∀ w, (Instr.index 9 (.string s) (.int .i64 k)).run Tryd.prog w = .ok (.int .u8 (Pl.bt s k)) w) := fun k hk w => idx_str s k hk w
  have HE : Hid (∀ i, s.size ≤ i → Pl.lx s i = []) := fun i h => Pl.lx_end h
  have HU : Hid (∀ i, i < s.size → Pl.lx s i = if Pl.blank (Pl.bt s i) then Pl.lx s (i + 1) else if Pl.bt s i = 35 then Pl.lx s (Pl.eol s (s.size - i) i) else Pl.tokAt s i :: Pl.lx s (i + (Pl.tokAt s i).tx.size)) := fun i h => Pl.lx_un h
  have HI : Hid (∀ i, i < s.size → Pl.endI s i = i + (Pl.tokAt s i).tx.size ∧ i + 1 ≤ Pl.endI s i ∧ Pl.endI s i ≤ s.size) := fun i h => ⟨Pl.endI_tok h, Pl.endI_le h⟩
  have HQ : Hid (∀ i, i < s.size → (Pl.tkI (s.extract i (Pl.endI s i))).2 = decide (¬ (Pl.tokAt s i).k = 120) ∧ (¬ (Pl.tokAt s i).k = 120 → (Pl.tkI (s.extract i (Pl.endI s i))).1 = Pl.iTk (Pl.tokAt s i))) := fun i h => Pl.tkI_tok h
  have K30 : Hid (∀ i w, Calls Tryd.prog 30 #[.string ⟨#[32, 9, 13]⟩, .int .u8 (Pl.bt s i)] w fun e w' => ∃ k : Int, e = .returned (.int .i64 k) ∧ decide (0 ≤ k) = decide (Pl.blank (Pl.bt s i)) ∧ w' = w) := fun i w => by
    refine (Tryd.strings_IndexByte ⟨#[32, 9, 13]⟩ (Pl.bt s i) w).mono ?_
    rintro e w' ⟨rfl, rfl⟩
    have hb := Pl.bt_lt s i
    exact ⟨_, rfl, (Pl.idx_sg (L := [32, 9, 13]) (M := Pl.bL) (by decide) hb.1 hb.2).trans (Pl.blank_mem _), rfl⟩
  have K31 : Hid (∀ i w, i < s.size → Calls Tryd.prog 31 #[.string s, .int .i64 i] w fun e w' => e = .returned (.int .i64 (Pl.endI s i : Nat)) ∧ w' = w) := fun i w h => tokenEnd_any s i w h (by omega)
  have K32 : Hid (∀ i w', i < s.size → Below w.heap.size w w' → Calls Tryd.prog 32 #[.string (s.extract i (Pl.endI s i))] w' fun e w'' => e = .returned (tkV (Pl.tkI (s.extract i (Pl.endI s i)))) ∧ Below w'.heap.size w' w'') := fun i w' h hb => by
    have he := Pl.endI_le h
    have hz : (s.extract i (Pl.endI s i)).size = Pl.endI s i - i := Pl.ext_size s i _ he.2
    exact tokenOf_any _ mb mo cp w' (hm.keep hb) (by omega) (by omega)
  generalize hn : s.size = n at *
  clear hm
  go_enter Tryd.func12, Tryd.ntmps12
  go_wp2_with fail
  go_step3
  go_wp2_with fail
  go_step3
  go_wp2_with fail
  go_loopw [2, 5] (fun u v wr => ∃ (i : Nat) (l : List Pl.Tok) (ao : Option Addr) (cap m : Nat), i ≤ n ∧ v = .int .i64 i ∧ u = .slice ao m cap ∧ m ≤ i ∧ l.length = m ∧ Hid (wr.ownsRow w.heap.size 68 3 (.slice ao m cap) m (Pl.cellsI (l.map Pl.iTk))) ∧ Hid (Below w.heap.size w wr) ∧ Hid (Pl.lx s 0 = l ++ Pl.lx s i) ∧ Hid (∀ t ∈ l, ¬ t.k = 120)) (fun _ v _ => n - (intOf v).toNat)
  case atStart => exact ⟨0, [], none, 0, 0, Nat.zero_le _, rfl, rfl, Nat.le_refl _, rfl, World.ownsRow_nil _ _ _ _, Below.refl _ _, rfl, fun t ht => absurd ht (by simp)⟩
  case round =>
    obtain ⟨i, l, ao, cap, m, hi, rfl, rfl, hli, hm, ow, BB, hlx, hgd⟩ := hrel
    have HM := hideP hm
    clear hm
    by_cases hlt : i < n
    · have hlt' : (i : Int) < (n : Int) := by omega
      have hix := HX.out i hlt
      have hU := hideP (HU.out i hlt)
      have k30 := hideP (K30.out i)
      clear K30
      by_cases hb : Pl.blank (Pl.bt s i)
      · have HN := hideP (show Pl.lx s 0 = l ++ Pl.lx s (i + 1) by rw [hlx.out, hU.out, if_pos hb])
        rw [decide_eq_true hb] at k30
        clear HX HE HU HI HQ K31 K32 hU hb hlx
        generalize Pl.bt s i = c at *
        go_wp2_with (go_at_call 30; refine (k30.out _).mono ?_; rintro e w' ⟨k, rfl, hkb, rfl⟩)
        go_roundw
        case rel => exact ⟨i + 1, l, ao, cap, m, by omega, by go_num, rfl, by omega, HM.out, ow, BB, HN, hgd⟩
        case measure => simp [intOf]; omega
      · rw [decide_eq_false hb] at k30
        by_cases hc : Pl.bt s i = 35
        · have HN := hideP (show Pl.lx s 0 = l ++ Pl.lx s (Pl.eol s (n - i) i) by rw [hlx.out, hU.out, if_neg hb, if_pos hc])
          have HY : Hid (∀ k, k < n → ¬ Pl.bt s k = 10 → Pl.eol s (n - k) k = Pl.eol s (n - (k + 1)) (k + 1)) := fun k h h2 => by subst hn; exact Pl.eol_yes h h2
          have HNo : Hid (∀ k, k < n → Pl.bt s k = 10 → Pl.eol s (n - k) k = k) := fun k h h2 => by subst hn; exact Pl.eol_no h h2
          have HEn : Hid (∀ k, n ≤ k → Pl.eol s (n - k) k = k) := fun k h => by subst hn; exact Pl.eol_end h
          have HG : Hid (i + 1 ≤ Pl.eol s (n - i) i ∧ Pl.eol s (n - i) i ≤ n) := by subst hn; exact Pl.eol_lt hlt hc
          rw [hc] at hix k30
          generalize he : Pl.eol s (n - i) i = e at *
          have He := hideP he
          clear HE HU HI HQ K31 K32 hU hb hc he hlx
          go_wp2_with (go_at_call 30; refine (k30.out _).mono ?_; rintro e w' ⟨k, rfl, hkb, rfl⟩)
          go_loop [5] (fun v => ∃ j : Nat, i ≤ j ∧ j ≤ n ∧ v = .int .i64 j ∧ Hid (Pl.eol s (n - j) j = e)) (fun v => n - (intOf v).toNat)
          case atStart => exact ⟨i, Nat.le_refl _, hi, rfl, He⟩
          case round =>
            obtain ⟨j, hj1, hj2, rfl, hj⟩ := hrel
            by_cases hjn : j < n
            · have hjn' : (j : Int) < (n : Int) := by omega
              have hjx := HX.out j hjn
              by_cases h10 : Pl.bt s j = 10
              · have hej := hideP ((HNo.out j hjn h10).symm.trans hj.out)
                rw [h10] at hjx
                clear HX HY HNo HEn h10
                have HN2 := hideP (show Pl.lx s 0 = l ++ Pl.lx s j by rw [hej.out]; exact HN.out)
                have hge : i + 1 ≤ j := by have := hej.out; have := HG.out; omega
                go_wp2_with fail
                exact ⟨⟨j, l, ao, cap, m, hj2, rfl, rfl, by omega, HM.out, ow, BB, HN2, hgd⟩, by simp [intOf]; omega⟩
              · have h10' : (Pl.bt s j == 10) = false := by simpa using h10
                have hej := hideP ((HY.out j hjn h10).symm.trans hj.out)
                clear HX HY HNo HEn h10
                generalize Pl.bt s j = x at *
                go_wp2_with fail
                go_round
                case rel => exact ⟨j + 1, by omega, by omega, by go_num, hej⟩
                case measure => simp [intOf]; omega
            · obtain rfl : j = n := by omega
              have hej := hideP ((HEn.out j (Nat.le_refl _)).symm.trans hj.out)
              have HN2 := hideP (show Pl.lx s 0 = l ++ Pl.lx s j by rw [hej.out]; exact HN.out)
              have hge : i + 1 ≤ j := by have := hej.out; have := HG.out; omega
              clear HX HY HNo HEn
              go_wp2_with fail
              exact ⟨⟨j, l, ao, cap, m, hj2, rfl, rfl, by omega, HM.out, ow, BB, HN2, hgd⟩, by simp [intOf]; omega⟩
        · have b4 : (Pl.bt s i == 35) = false := by simpa using hc
          have HN := hideP (show Pl.lx s 0 = l ++ Pl.tokAt s i :: Pl.lx s (Pl.endI s i) by rw [hlx.out, hU.out, if_neg hb, if_neg hc, (HI.out i hlt).1])
          have hei := HI.out i hlt
          have HK := hideP (HQ.out i hlt)
          have k31 := hideP (fun w => K31.out i w hlt)
          have k32 := hideP (K32.out i wr hlt BB.out)
          have HP := hideP (Pl.tok_pos s i)
          clear HX HE HU HI HQ K31 K32 hU hb hc hlx
          obtain ⟨hx0, he1, he2⟩ := hei
          clear hx0
          generalize Pl.endI s i = e0 at *
          have he0 : i ≤ e0 := by omega
          generalize Pl.tkI (s.extract i e0) = Q at *
          obtain ⟨t, b⟩ := Q
          obtain ⟨tk, tx, tv⟩ := t
          cases b
          · have HF : Hid (Pl.fb (Pl.lx s 0) = some i) := by
              show _ = _
              have h1 := HK.out.1
              have h2 : (Pl.tokAt s i).k = 120 := by simpa using h1
              rw [HN.out, Pl.fb_app l _ hgd.out, Pl.fb, if_pos h2, HP.out]
            clear HN HK HP
            generalize Pl.bt s i = c at *
            go_wp2_with (first | (go_at_call 30; refine (k30.out _).mono ?_; rintro e w' ⟨k, rfl, hkb, rfl⟩) | (go_at_call 31; refine (k31.out _).mono ?_; rintro e w' ⟨rfl, rfl⟩))
            refine k32.out.mono ?_
            rintro e w2 ⟨rfl, hb2⟩
            simp only [tkV]
            have B2 := hideP (fun o => (BB.out.trans (hb2.mono BB.out.size)).alloc (Nat.le_trans BB.out.size hb2.size) o)
            clear hb2
            go_wp2_with fail
            rw [Exit.noGoto_ret]
            refine bodyPost_ret (v := .tuple #[.slice none 0 0, .int .i64 i, .bool false]) (by simp [results, Tryd.results12, go_sem]) rfl (PoT.bad HF.out rfl (B2.out _))
          · have hok : ¬ (Pl.tokAt s i).k = 120 := by simpa using HK.out.1.symm
            have HT : Hid ((⟨tk, tx, tv⟩ : Pl.Itk) = Pl.iTk (Pl.tokAt s i)) := HK.out.2 hok
            have HN2 : Hid (Pl.lx s 0 = (l ++ [Pl.tokAt s i]) ++ Pl.lx s e0) := by show _ = _; rw [HN.out]; simp
            have HG2 : Hid (∀ t ∈ l ++ [Pl.tokAt s i], ¬ t.k = 120) := fun t ht => by
              rcases List.mem_append.1 ht with h | h
              · exact hgd.out t h
              · rw [List.mem_singleton.1 h]; exact hok
            have HM2 : Hid ((l ++ [Pl.tokAt s i]).length = m + 1) := by show _ = _; rw [List.length_append, HM.out]; rfl
            have HC2 : Hid (Pl.cellsI ((l ++ [Pl.tokAt s i]).map Pl.iTk) = Pl.cellsI (l.map Pl.iTk) ++ [.int .i64 tk, .string tx, .int .i64 tv]) := by
              show _ = _
              rw [List.map_append, List.map_singleton, Pl.cellsI_app, ← HT.out]
              rfl
            clear HN HK HP HT hok
            generalize l ++ [Pl.tokAt s i] = l2 at *
            generalize Pl.bt s i = c at *
            go_wp2_with (first | (go_at_call 30; refine (k30.out _).mono ?_; rintro e w' ⟨k, rfl, hkb, rfl⟩) | (go_at_call 31; refine (k31.out _).mono ?_; rintro e w' ⟨rfl, rfl⟩))
            refine k32.out.mono ?_
            rintro e w2 ⟨rfl, hb2⟩
            simp only [tkV]
            have ow2 := hideP (owns_keep ow.out hb2)
            have B2 := hideP (BB.out.trans (hb2.mono BB.out.size))
            clear hb2 ow BB
            go_wp2_with (at_builtin; refine wpList_append_g el41 (base := w.heap.size) _ rfl _ _ rfl _ _ _ _ _ rfl rfl m (Pl.cellsI (l.map Pl.iTk)) [.int .i64 tk, .string tx, .int .i64 tv] ?ho0 rfl ?hc0 ?h10 ?hb0 ?hB0 ?_)
            case ho0 => exact owns_keep ow2.out (((Below.refl _ _).alloc (Nat.le_refl _) _).alloc (by simp) _)
            case hc0 => exact cells_new (by simp)
            case h10 => simp [Value.oneCell']
            case hb0 => omega
            case hB0 => have := B2.out.size; simp; omega
            intro v9 w9 ho9 hg9 _
            obtain ⟨ao9, cap9, rfl⟩ := own_form ho9
            have T9 := hideP (lex_tail ow2.out B2.out (hg := hg9) (hq := ((Below.refl _ _).alloc (Nat.le_refl _) _).alloc (by simp) _) (hs := by simp <;> omega) B2.out.size)
            have O9 : Hid (w9.ownsRow w.heap.size 68 3 (.slice ao9 (m + 1) cap9) (m + 1) (Pl.cellsI (l2.map Pl.iTk))) := by show World.ownsRow _ _ _ _ _ _ _; rw [HC2.out]; exact ho9
            clear ho9 hg9 ow2 B2
            go_wp2_with fail
            go_roundw
            case rel => exact ⟨e0, l2, ao9, cap9, m + 1, he2, rfl, rfl, by omega, HM2.out, O9, T9.out.1, HN2, HG2⟩
            case measure => simp [intOf]; omega
    · obtain rfl : i = n := by omega
      have HF := hideP (show Pl.lx s 0 = l by rw [hlx.out, HE.out i (Nat.le_refl _), List.append_nil])
      clear HX HE HU HI HQ K30 K31 K32 hlx
      go_wp2_with fail
      try rw [Exit.noGoto_ret]
      refine bodyPost_ret (v := .tuple #[.slice ao m cap, .int .i64 0, .bool true]) (by simp [results, Tryd.results12, go_sem]) rfl (PoT.good HF.out hgd.out HM.out ow.out BB.out)
end Go.Proofs.YtljkolffjjhgeaaDoor
