import Derived.Test.YthhfpcdbgndioaaGreatDoorIle
import Derived.WalkMore
import Derived.Deep.LoopGhost
import Derived.Test.YthhfpcdbgndioaaGreatDoorPgm
import Derived.Laws.BytesArg
import Derived.Laws.Concat
import Derived.Deep.RegionHeld3
import Derived.Deep.QuietTactic
namespace Go.Proofs.YthhfpcdbgndioaaGreatDoor
open Go.RowKit
set_option linter.unusedVariables false
set_option maxRecDepth 100000
/-- a token and whether it is one -/
def tkV (q : Pl.Itk × Bool) : Value := .tuple #[.agg #[.int .i64 q.1.k, .string q.1.tx, .int .i64 q.1.v], .bool q.2]
set_option maxHeartbeats 2000000 in
/-- impl.tokenOf -/
theorem tokenOf_any (x : ByteArray) (mb mo cp : Nat) (w : World) (hm : Mt w mb mo cp) (h0 : 0 < x.size) (hl : x.size ≤ 1048576) :
    Calls Tryz.prog 31 #[.string x] w fun e w' => e = .returned (tkV (Pl.tkI x)) ∧ Below w.heap.size w w' := by
  have hix : ∀ w, (Instr.index 9 (.string x) (.int .i64 0)).run Tryz.prog w = .ok (.int .u8 (Pl.bt x 0)) w := idx_str x 0 h0
  have HT : Hid (Pl.tkI x = if Pl.bt x 0 = 95 ∨ Pl.digI (Pl.bt x 0) = true then (⟨1, ⟨#[]⟩, (Pl.numS x).1⟩, (Pl.numS x).2)
    else if Pl.lttI (Pl.bt x 0) = true then (⟨Pl.wk x.data.toList, x, 0⟩, decide (¬ Pl.wk x.data.toList = 0))
    else if Pl.bt x 0 = 10 then (⟨4, ⟨#[59]⟩, 0⟩, true) else (⟨4, x, 0⟩, decide (Pl.bt x 0 ∈ Pl.sgL))) := rfl
  have K47 : Hid (∀ w, Calls Tryz.prog 53 #[.int .u8 (Pl.bt x 0)] w fun e w' => e = .returned (.bool (Pl.digI (Pl.bt x 0))) ∧ w' = w) := isDigit_any _
  have K48 : Hid (∀ w, Calls Tryz.prog 54 #[.string x] w fun e w' => e = .returned (.tuple #[.int .i64 (Pl.numS x).1, .bool (Pl.numS x).2]) ∧ w' = w) := fun w => numberOf_any x w h0 hl
  have K49 : Hid (∀ w, Calls Tryz.prog 55 #[.int .u8 (Pl.bt x 0)] w fun e w' => e = .returned (.bool (Pl.lttI (Pl.bt x 0))) ∧ w' = w) := isLetter_any _
  have BX : Hid (∀ o, Below w.heap.size w (w.alloc o)) := fun o => (Below.refl _ _).alloc (Nat.le_refl _) o
  have K50 : Hid (∀ o, Calls Tryz.prog 47 #[.string x] (w.alloc o) fun e w' => e = .returned (.int .i64 (Pl.wk x.data.toList)) ∧ Below (w.heap.size + 1) (w.alloc o) w') := fun o => by
    have h := wordKind_any x mb mo cp (w.alloc o) (hm.keep (BX.out o)) (by omega)
    simpa using h
  have K51 : Hid (∀ w, Calls Tryz.prog 56 #[.string x] w fun e w' => e = .returned (.string x) ∧ Below w.heap.size w w') := fun w => clone_any x w (by omega)
  have K30 : Hid (∀ w, Calls Tryz.prog 29 #[.string ⟨#[43, 45, 42, 37, 124, 60, 61, 62, 126, 40, 41, 123, 125, 58, 59, 47, 92, 64, 46]⟩, .int .u8 (Pl.bt x 0)] w fun e w' => ∃ k : Int, e = .returned (.int .i64 k) ∧ decide (0 ≤ k) = decide (Pl.bt x 0 ∈ Pl.sgL) ∧ w' = w) := fun w => by
    refine (Tryz.strings_IndexByte ⟨#[43, 45, 42, 37, 124, 60, 61, 62, 126, 40, 41, 123, 125, 58, 59, 47, 92, 64, 46]⟩ (Pl.bt x 0) w).mono ?_
    rintro e w' ⟨rfl, rfl⟩
    have hb := Pl.bt_lt x 0
    exact ⟨_, rfl, Pl.idx_sg (L := [43, 45, 42, 37, 124, 60, 61, 62, 126, 40, 41, 123, 125, 58, 59, 47, 92, 64, 46]) (M := Pl.sgL) (by decide) hb.1 hb.2, rfl⟩
  clear hm
  generalize Pl.numS x = N at *
  generalize Pl.wk x.data.toList = W at *
  generalize Pl.bt x 0 = c at *
  by_cases h95 : c = 95
  · subst h95
    have HR : Hid (Pl.tkI x = (⟨1, ⟨#[]⟩, N.1⟩, N.2)) := by show _ = _; rw [HT.out, if_pos (.inl rfl)]
    rw [HR.out]
    clear HR HT K49 K50 K51 K30
    obtain ⟨n, b⟩ := N
    go_enter Tryz.func31, Tryz.ntmps31
    go_wp2_with (first | (go_at_call 53; refine (K47.out _).mono ?_; rintro e w' ⟨rfl, rfl⟩) | (go_at_call 54; refine (K48.out _).mono ?_; rintro e w' ⟨rfl, rfl⟩))
    refine bodyPost_ret (v := tkV (⟨1, ⟨#[]⟩, n⟩, b)) (by simp [results, Tryz.results31, go_sem, tkV]) rfl ⟨rfl, BX.out _⟩
  · have h95' : (c == 95) = false := by simpa using h95
    cases hd : Pl.digI c
    · rw [hd] at K47
      cases hlt : Pl.lttI c
      · rw [hlt] at K49
        by_cases h10 : c = 10
        · subst h10
          have HR : Hid (Pl.tkI x = (⟨4, ⟨#[59]⟩, 0⟩, true)) := by show _ = _; rw [HT.out, hd, hlt]; rfl
          rw [HR.out]
          clear HR HT K48 K50 K51 K30 h95 hd hlt
          go_enter Tryz.func31, Tryz.ntmps31
          go_wp2_with (first | (go_at_call 53; refine (K47.out _).mono ?_; rintro e w' ⟨rfl, rfl⟩) | (go_at_call 55; refine (K49.out _).mono ?_; rintro e w' ⟨rfl, rfl⟩))
          refine bodyPost_ret (v := tkV (⟨4, ⟨#[59]⟩, 0⟩, true)) (by simp [results, Tryz.results31, go_sem, tkV]) rfl ⟨rfl, BX.out _⟩
        · have h10' : (c == 10) = false := by simpa using h10
          have HR : Hid (Pl.tkI x = (⟨4, x, 0⟩, decide (c ∈ Pl.sgL))) := by show _ = _; rw [HT.out, hd, hlt, if_neg (by simp [h95]), if_neg (by simp), if_neg h10]
          rw [HR.out]
          clear HR HT K48 K50 K51 h95 hd hlt h10
          generalize decide (c ∈ Pl.sgL) = b at *
          go_enter Tryz.func31, Tryz.ntmps31
          go_wp2_with (first | (go_at_call 53; refine (K47.out _).mono ?_; rintro e w' ⟨rfl, rfl⟩) | (go_at_call 55; refine (K49.out _).mono ?_; rintro e w' ⟨rfl, rfl⟩) | (go_at_call 29; refine (K30.out _).mono ?_; rintro e w' ⟨k, rfl, hkb, rfl⟩))
          refine bodyPost_ret (v := tkV (⟨4, x, 0⟩, b)) (by simp [results, Tryz.results31, go_sem, tkV]) rfl ⟨rfl, BX.out _⟩
      · rw [hlt] at K49
        have HR : Hid (Pl.tkI x = (⟨W, x, 0⟩, decide (¬ W = 0))) := by show _ = _; rw [HT.out, hd, hlt, if_neg (by simp [h95]), if_pos rfl]
        rw [HR.out]
        clear HR HT K48 K30 h95 hd hlt
        go_enter Tryz.func31, Tryz.ntmps31
        go_wp2_with (first | (go_at_call 53; refine (K47.out _).mono ?_; rintro e w' ⟨rfl, rfl⟩) | (go_at_call 55; refine (K49.out _).mono ?_; rintro e w' ⟨rfl, rfl⟩))
        refine (K50.out _).mono ?_
        rintro e w1 ⟨rfl, hb1⟩
        have B1 := hideP ((BX.out _).trans (hb1.mono (Nat.le_succ _)))
        have r0 := bcell hb1 (b := w.heap.size) (j := 0) (by omega) (by simp [go_sem]; rfl)
        have r1 := bcell hb1 (b := w.heap.size) (j := 1) (by omega) (by simp [go_sem]; rfl)
        have r2 := bcell hb1 (b := w.heap.size) (j := 2) (by omega) (by simp [go_sem]; rfl)
        have rf : ∀ j, w1.frozen? ⟨w.heap.size, j, none⟩ = false := fun j => bfroz hb1 (by omega) (by simp [go_sem])
        have hs1 : w.heap.size < w1.heap.size := by have := hb1.size; simp at this; omega
        clear hb1 BX
        go_wp2_with fail
        refine (K51.out _).mono ?_
        rintro e w2 ⟨rfl, hb2⟩
        have B2 := hideP (B1.out.trans (hb2.mono (by omega)))
        have q0 := bcell hb2 hs1 r0
        have q1 := bcell hb2 hs1 r1
        have q2 := bcell hb2 hs1 r2
        have qf : ∀ j, w2.frozen? ⟨w.heap.size, j, none⟩ = false := fun j => bfroz hb2 hs1 (rf j)
        clear hb2 r0 r1 r2 rf B1 K50 K51
        go_wp2_with fail
        have hfin : Below w.heap.size w (w2.setCells w.heap.size 0 [.int .i64 W, .string x, .int .i64 0]) := setCells_below _ (Nat.le_refl _) _ 0 _ B2.out
        refine bodyPost_ret (v := tkV (⟨W, x, 0⟩, decide (¬ W = 0))) (by simp [results, Tryz.results31, go_sem, tkV, q0, q1, q2]; rfl) rfl ⟨rfl, hfin⟩
    · rw [hd] at K47
      have HR : Hid (Pl.tkI x = (⟨1, ⟨#[]⟩, N.1⟩, N.2)) := by show _ = _; rw [HT.out, hd, if_pos (.inr rfl)]
      rw [HR.out]
      clear HR HT K49 K50 K51 K30 h95 hd
      obtain ⟨n, b⟩ := N
      go_enter Tryz.func31, Tryz.ntmps31
      go_wp2_with (first | (go_at_call 53; refine (K47.out _).mono ?_; rintro e w' ⟨rfl, rfl⟩) | (go_at_call 54; refine (K48.out _).mono ?_; rintro e w' ⟨rfl, rfl⟩))
      refine bodyPost_ret (v := tkV (⟨1, ⟨#[]⟩, n⟩, b)) (by simp [results, Tryz.results31, go_sem, tkV]) rfl ⟨rfl, BX.out _⟩
namespace Pl
def Itk.cells (t : Itk) : List Value := [.int .i64 t.k, .string t.tx, .int .i64 t.v]
def cellsI (l : List Itk) : List Value := l.flatMap Itk.cells
theorem cellsI_app (l : List Itk) (t : Itk) : cellsI (l ++ [t]) = cellsI l ++ t.cells := by simp [cellsI]
theorem fb_app : ∀ (l r : List Tok), (∀ t ∈ l, ¬ t.k = 120) → fb (l ++ r) = fb r
  | [], _, _ => rfl
  | t :: l, r, h => by
    show fb (t :: (l ++ r)) = _
    rw [fb, if_neg (h t (by simp)), fb_app l r (fun x hx => h x (by simp [hx]))]
theorem tok_pos (s : ByteArray) (i : Nat) : (tokAt s i).pos = i := by
  unfold tokAt
  repeat (split <;> try rfl)
def bL : List Int := [32, 9, 13]
theorem blank_mem (c : Int) : decide (c ∈ bL) = decide (blank c) := decide_eq_decide.2 (by simp [bL]; exact Iff.rfl)
end Pl
theorem el41 : El 49 79 3 := El.mk' (zr := .agg #[.int .i64 0, .string ByteArray.empty, .int .i64 0]) (bs := 32) Tryz.underlying49 (by kernel_rfl) rfl (by decide) (by decide)
/-- what tokensOf gives -/
def PoT (s : ByteArray) (w : World) (e : Ending) (w' : World) : Prop := match Pl.fb (Pl.lxT s 0) with
  | some p => e = .returned (.tuple #[.slice none 0 0, .int .i64 p, .bool false]) ∧ Below w.heap.size w w'
  | none => ∃ ao cap, e = .returned (.tuple #[.slice ao (Pl.lxT s 0).length cap, .int .i64 0, .bool true]) ∧ w'.ownsRow w.heap.size 79 3 (.slice ao (Pl.lxT s 0).length cap) (Pl.lxT s 0).length (Pl.cellsI ((Pl.lxT s 0).map Pl.iTk)) ∧ Below w.heap.size w w'
theorem PoT.bad {s : ByteArray} {w w' : World} {p : Nat} {q : Int} (h : Pl.fb (Pl.lxT s 0) = some p) (hq : q = p) (hb : Below w.heap.size w w') : PoT s w (.returned (.tuple #[.slice none 0 0, .int .i64 q, .bool false])) w' := by
  unfold PoT
  rw [h, hq]
  exact ⟨rfl, hb⟩
theorem PoT.good {s : ByteArray} {w w' : World} {l : List Pl.Tok} {ao : Option Addr} {cap n : Nat} (h : Pl.lxT s 0 = l) (hg : ∀ t ∈ l, ¬ t.k = 120) (hn : l.length = n) (ho : w'.ownsRow w.heap.size 79 3 (.slice ao n cap) n (Pl.cellsI (l.map Pl.iTk))) (hb : Below w.heap.size w w') : PoT s w (.returned (.tuple #[.slice ao n cap, .int .i64 0, .bool true])) w' := by
  have hf : Pl.fb (Pl.lxT s 0) = none := by
    have := Pl.fb_app l [] hg
    rw [List.append_nil] at this
    rw [h, this]
    rfl
  unfold PoT
  rw [hf, h]
  subst hn
  exact ⟨ao, cap, rfl, ho, hb⟩
set_option maxHeartbeats 4000000 in
/-- impl.tokensOf -/
theorem tokensOf_any (s : ByteArray) (mb mo cp : Nat) (w : World) (hm : Mt w mb mo cp) (hl : s.size ≤ 4000) :
    Calls Tryz.prog 16 #[.string s] w (PoT s w) := by
  have HX : Hid (∀ k, k < s.size → ∀ w, (Instr.index 9 (.string s) (.int .i64 k)).run Tryz.prog w = .ok (.int .u8 (Pl.bt s k)) w) := fun k hk w => idx_str s k hk w
  have HE : Hid (∀ i, s.size ≤ i → Pl.lxT s i = []) := fun i h => Pl.lx_end h
  have HU : Hid (∀ i, i < s.size → Pl.lxT s i = if Pl.blank (Pl.bt s i) then Pl.lxT s (i + 1) else if Pl.bt s i = 35 then Pl.lxT s (Pl.eol s (s.size - i) i) else Pl.tokAt s i :: Pl.lxT s (i + (Pl.tokAt s i).tx.size)) := fun i h => Pl.lx_un h
  have HI : Hid (∀ i, i < s.size → Pl.endI s i = i + (Pl.tokAt s i).tx.size ∧ i + 1 ≤ Pl.endI s i ∧ Pl.endI s i ≤ s.size) := fun i h => ⟨Pl.endI_tok h, Pl.endI_le h⟩
  have HQ : Hid (∀ i, i < s.size → (Pl.tkI (s.extract i (Pl.endI s i))).2 = decide (¬ (Pl.tokAt s i).k = 120) ∧ (¬ (Pl.tokAt s i).k = 120 → (Pl.tkI (s.extract i (Pl.endI s i))).1 = Pl.iTk (Pl.tokAt s i))) := fun i h => Pl.tkI_tok h
  have K30 : Hid (∀ i w, Calls Tryz.prog 29 #[.string ⟨#[32, 9, 13]⟩, .int .u8 (Pl.bt s i)] w fun e w' => ∃ k : Int, e = .returned (.int .i64 k) ∧ decide (0 ≤ k) = decide (Pl.blank (Pl.bt s i)) ∧ w' = w) := fun i w => by
    refine (Tryz.strings_IndexByte ⟨#[32, 9, 13]⟩ (Pl.bt s i) w).mono ?_
    rintro e w' ⟨rfl, rfl⟩
    have hb := Pl.bt_lt s i
    exact ⟨_, rfl, (Pl.idx_sg (L := [32, 9, 13]) (M := Pl.bL) (by decide) hb.1 hb.2).trans (Pl.blank_mem _), rfl⟩
  have K31 : Hid (∀ i w, i < s.size → Calls Tryz.prog 30 #[.string s, .int .i64 i] w fun e w' => e = .returned (.int .i64 (Pl.endI s i : Nat)) ∧ w' = w) := fun i w h => tokenEnd_any s i w h (by omega)
  have K32 : Hid (∀ i w', i < s.size → Below w.heap.size w w' → Calls Tryz.prog 31 #[.string (s.extract i (Pl.endI s i))] w' fun e w'' => e = .returned (tkV (Pl.tkI (s.extract i (Pl.endI s i)))) ∧ Below w'.heap.size w' w'') := fun i w' h hb => by
    have he := Pl.endI_le h
    have hz : (s.extract i (Pl.endI s i)).size = Pl.endI s i - i := Pl.ext_size s i _ he.2
    exact tokenOf_any _ mb mo cp w' (hm.keep hb) (by omega) (by omega)
  generalize hn : s.size = n at *
  clear hm
  go_enter Tryz.func16, Tryz.ntmps16
  go_wp2_with fail
  go_step3
  go_wp2_with fail
  go_step3
  go_wp2_with fail
  go_loopw [2, 5] (fun u v wr => ∃ (i : Nat) (l : List Pl.Tok) (ao : Option Addr) (cap m : Nat), i ≤ n ∧ v = .int .i64 i ∧ u = .slice ao m cap ∧ m ≤ i ∧ l.length = m ∧ Hid (wr.ownsRow w.heap.size 79 3 (.slice ao m cap) m (Pl.cellsI (l.map Pl.iTk))) ∧ Hid (Below w.heap.size w wr) ∧ Hid (Pl.lxT s 0 = l ++ Pl.lxT s i) ∧ Hid (∀ t ∈ l, ¬ t.k = 120)) (fun _ v _ => n - (intOf v).toNat)
  case atStart => exact ⟨0, [], none, 0, 0, Nat.zero_le _, rfl, rfl, Nat.le_refl _, rfl, World.ownsRow_nil _ _ _ _, Below.refl _ _, rfl, fun t ht => absurd ht (by simp)⟩
  case round =>
    obtain ⟨i, l, ao, cap, m, hi, rfl, rfl, hli, hm, ow, BB, hlx, hgd⟩ := hrel
    have HM := hideP hm
    clear hm
    by_cases hlt : i < n
    · have hlt' : (i : Int) < (n : Int) := by omega
      have hix := HX.out i hlt
      have hU := hideP (HU.out i hlt)
      have k30 := hideP (K30.out i)
      clear K30
      by_cases hb : Pl.blank (Pl.bt s i)
      · have HN := hideP (show Pl.lxT s 0 = l ++ Pl.lxT s (i + 1) by rw [hlx.out, hU.out, if_pos hb])
        rw [decide_eq_true hb] at k30
        clear HX HE HU HI HQ K31 K32 hU hb hlx
        generalize Pl.bt s i = c at *
        go_wp2_with (go_at_call 29; refine (k30.out _).mono ?_; rintro e w' ⟨k, rfl, hkb, rfl⟩)
        go_roundw
        case rel => exact ⟨i + 1, l, ao, cap, m, by omega, by go_num, rfl, by omega, HM.out, ow, BB, HN, hgd⟩
        case measure => simp [intOf]; omega
      · rw [decide_eq_false hb] at k30
        by_cases hc : Pl.bt s i = 35
        · have HN := hideP (show Pl.lxT s 0 = l ++ Pl.lxT s (Pl.eol s (n - i) i) by rw [hlx.out, hU.out, if_neg hb, if_pos hc])
          have HY : Hid (∀ k, k < n → ¬ Pl.bt s k = 10 → Pl.eol s (n - k) k = Pl.eol s (n - (k + 1)) (k + 1)) := fun k h h2 => by subst hn; exact Pl.eol_yes h h2
          have HNo : Hid (∀ k, k < n → Pl.bt s k = 10 → Pl.eol s (n - k) k = k) := fun k h h2 => by subst hn; exact Pl.eol_no h h2
          have HEn : Hid (∀ k, n ≤ k → Pl.eol s (n - k) k = k) := fun k h => by subst hn; exact Pl.eol_end h
          have HG : Hid (i + 1 ≤ Pl.eol s (n - i) i ∧ Pl.eol s (n - i) i ≤ n) := by subst hn; exact Pl.eol_lt hlt hc
          rw [hc] at hix k30
          generalize he : Pl.eol s (n - i) i = e at *
          have He := hideP he
          clear HE HU HI HQ K31 K32 hU hb hc he hlx
          go_wp2_with (go_at_call 29; refine (k30.out _).mono ?_; rintro e w' ⟨k, rfl, hkb, rfl⟩)
          go_loop [5] (fun v => ∃ j : Nat, i ≤ j ∧ j ≤ n ∧ v = .int .i64 j ∧ Hid (Pl.eol s (n - j) j = e)) (fun v => n - (intOf v).toNat)
          case atStart => exact ⟨i, Nat.le_refl _, hi, rfl, He⟩
          case round =>
            obtain ⟨j, hj1, hj2, rfl, hj⟩ := hrel
            by_cases hjn : j < n
            · have hjn' : (j : Int) < (n : Int) := by omega
              have hjx := HX.out j hjn
              by_cases h10 : Pl.bt s j = 10
              · have hej := hideP ((HNo.out j hjn h10).symm.trans hj.out)
                rw [h10] at hjx
                clear HX HY HNo HEn h10
                have HN2 := hideP (show Pl.lxT s 0 = l ++ Pl.lxT s j by rw [hej.out]; exact HN.out)
                have hge : i + 1 ≤ j := by have := hej.out; have := HG.out; omega
                go_wp2_with fail
                exact ⟨⟨j, l, ao, cap, m, hj2, rfl, rfl, by omega, HM.out, ow, BB, HN2, hgd⟩, by simp [intOf]; omega⟩
              · have h10' : (Pl.bt s j == 10) = false := by simpa using h10
                have hej := hideP ((HY.out j hjn h10).symm.trans hj.out)
                clear HX HY HNo HEn h10
                generalize Pl.bt s j = x at *
                go_wp2_with fail
                go_round
                case rel => exact ⟨j + 1, by omega, by omega, by go_num, hej⟩
                case measure => simp [intOf]; omega
            · obtain rfl : j = n := by omega
              have hej := hideP ((HEn.out j (Nat.le_refl _)).symm.trans hj.out)
              have HN2 := hideP (show Pl.lxT s 0 = l ++ Pl.lxT s j by rw [hej.out]; exact HN.out)
              have hge : i + 1 ≤ j := by have := hej.out; have := HG.out; omega
              clear HX HY HNo HEn
              go_wp2_with fail
              exact ⟨⟨j, l, ao, cap, m, hj2, rfl, rfl, by omega, HM.out, ow, BB, HN2, hgd⟩, by simp [intOf]; omega⟩
        · have b4 : (Pl.bt s i == 35) = false := by simpa using hc
          have HN := hideP (show Pl.lxT s 0 = l ++ Pl.tokAt s i :: Pl.lxT s (Pl.endI s i) by rw [hlx.out, hU.out, if_neg hb, if_neg hc, (HI.out i hlt).1])
          have hei := HI.out i hlt
          have HK := hideP (HQ.out i hlt)
          have k31 := hideP (fun w => K31.out i w hlt)
          have k32 := hideP (K32.out i wr hlt BB.out)
          have HP := hideP (Pl.tok_pos s i)
          clear HX HE HU HI HQ K31 K32 hU hb hc hlx
          obtain ⟨hx0, he1, he2⟩ := hei
          clear hx0
          generalize Pl.endI s i = e0 at *
          have he0 : i ≤ e0 := by omega
          generalize Pl.tkI (s.extract i e0) = Q at *
          obtain ⟨t, b⟩ := Q
          obtain ⟨tk, tx, tv⟩ := t
          cases b
          · have HF : Hid (Pl.fb (Pl.lxT s 0) = some i) := by
              show _ = _
              have h1 := HK.out.1
              have h2 : (Pl.tokAt s i).k = 120 := by simpa using h1
              rw [HN.out, Pl.fb_app l _ hgd.out, Pl.fb, if_pos h2, HP.out]
            clear HN HK HP
            generalize Pl.bt s i = c at *
            go_wp2_with (first | (go_at_call 29; refine (k30.out _).mono ?_; rintro e w' ⟨k, rfl, hkb, rfl⟩) | (go_at_call 30; refine (k31.out _).mono ?_; rintro e w' ⟨rfl, rfl⟩))
            refine k32.out.mono ?_
            rintro e w2 ⟨rfl, hb2⟩
            simp only [tkV]
            have B2 := hideP (fun o => (BB.out.trans (hb2.mono BB.out.size)).alloc (Nat.le_trans BB.out.size hb2.size) o)
            clear hb2
            go_wp2_with fail
            rw [Exit.noGoto_ret]
            refine bodyPost_ret (v := .tuple #[.slice none 0 0, .int .i64 i, .bool false]) (by simp [results, Tryz.results16, go_sem]) rfl (PoT.bad HF.out rfl (B2.out _))
          · have hok : ¬ (Pl.tokAt s i).k = 120 := by simpa using HK.out.1.symm
            have HT : Hid ((⟨tk, tx, tv⟩ : Pl.Itk) = Pl.iTk (Pl.tokAt s i)) := HK.out.2 hok
            have HN2 : Hid (Pl.lxT s 0 = (l ++ [Pl.tokAt s i]) ++ Pl.lxT s e0) := by show _ = _; rw [HN.out]; simp
            have HG2 : Hid (∀ t ∈ l ++ [Pl.tokAt s i], ¬ t.k = 120) := fun t ht => by
              rcases List.mem_append.1 ht with h | h
              · exact hgd.out t h
              · rw [List.mem_singleton.1 h]; exact hok
            have HM2 : Hid ((l ++ [Pl.tokAt s i]).length = m + 1) := by show _ = _; rw [List.length_append, HM.out]; rfl
            have HC2 : Hid (Pl.cellsI ((l ++ [Pl.tokAt s i]).map Pl.iTk) = Pl.cellsI (l.map Pl.iTk) ++ [.int .i64 tk, .string tx, .int .i64 tv]) := by
              show _ = _
              rw [List.map_append, List.map_singleton, Pl.cellsI_app, ← HT.out]
              rfl
            clear HN HK HP HT hok
            generalize l ++ [Pl.tokAt s i] = l2 at *
            generalize Pl.bt s i = c at *
            go_wp2_with (first | (go_at_call 29; refine (k30.out _).mono ?_; rintro e w' ⟨k, rfl, hkb, rfl⟩) | (go_at_call 30; refine (k31.out _).mono ?_; rintro e w' ⟨rfl, rfl⟩))
            refine k32.out.mono ?_
            rintro e w2 ⟨rfl, hb2⟩
            simp only [tkV]
            have ow2 := hideP (owns_keepg ow.out hb2)
            have B2 := hideP (BB.out.trans (hb2.mono BB.out.size))
            clear hb2 ow BB
            go_wp2_with (at_builtin; refine wpList_append_g el41 (base := w.heap.size) _ rfl _ _ rfl _ _ _ _ _ rfl rfl m (Pl.cellsI (l.map Pl.iTk)) [.int .i64 tk, .string tx, .int .i64 tv] ?ho0 rfl ?hc0 ?h10 ?hb0 ?hB0 ?_)
            case ho0 => exact owns_keepg ow2.out (((Below.refl _ _).alloc (Nat.le_refl _) _).alloc (by simp) _)
            case hc0 => exact cells_new (by simp)
            case h10 => simp [Value.oneCell']
            case hb0 => omega
            case hB0 => have := B2.out.size; simp; omega
            intro v9 w9 ho9 hg9 _
            obtain ⟨ao9, cap9, rfl⟩ := own_form ho9
            have T9 := hideP (lex_tail ow2.out B2.out (hg := hg9) (hq := ((Below.refl _ _).alloc (Nat.le_refl _) _).alloc (by simp) _) (hs := by simp <;> omega) B2.out.size)
            have O9 : Hid (w9.ownsRow w.heap.size 79 3 (.slice ao9 (m + 1) cap9) (m + 1) (Pl.cellsI (l2.map Pl.iTk))) := by show World.ownsRow _ _ _ _ _ _ _; rw [HC2.out]; exact ho9
            clear ho9 hg9 ow2 B2
            go_wp2_with fail
            go_roundw
            case rel => exact ⟨e0, l2, ao9, cap9, m + 1, he2, rfl, rfl, by omega, HM2.out, O9, T9.out.1, HN2, HG2⟩
            case measure => simp [intOf]; omega
    · obtain rfl : i = n := by omega
      have HF := hideP (show Pl.lxT s 0 = l by rw [hlx.out, HE.out i (Nat.le_refl _), List.append_nil])
      clear HX HE HU HI HQ K30 K31 K32 hlx
      go_wp2_with fail
      try rw [Exit.noGoto_ret]
      refine bodyPost_ret (v := .tuple #[.slice ao m cap, .int .i64 0, .bool true]) (by simp [results, Tryz.results16, go_sem]) rfl (PoT.good HF.out hgd.out HM.out ow.out BB.out)
namespace Pl
theorem lex_memi (s : ByteArray) : ∀ (n i : Nat) (t : Tok), t ∈ lexS s n i → ∃ j, j < s.size ∧ t = tokAt s j
  | 0, i, t, h => by simp [lexS] at h
  | n + 1, i, t, h => by
    rw [lexS] at h
    split at h
    · simp at h
    · split at h
      · exact lex_memi s n _ t h
      · split at h
        · exact lex_memi s n _ t h
        · rename_i h0 _ _
          rcases List.mem_cons.1 h with rfl | h
          · exact ⟨i, by omega, rfl⟩
          · exact lex_memi s n _ t h
theorem lx_iok {s : ByteArray} (h : fb (lxT s 0) = none) : ∀ t ∈ (lxT s 0).map iTk, iOk t := fun t ht => by
  obtain ⟨u, hu, rfl⟩ := List.mem_map.1 ht
  obtain ⟨j, hj, rfl⟩ := lex_memi s _ _ u hu
  exact iTk_ok hj (fb_none _ h _ hu)
theorem lx_T {s : ByteArray} (h : fb (lxT s 0) = none) : rI ((lxT s 0).map iTk) 0 = (lxT s 0).map tkT := by
  unfold rI
  rw [List.drop_zero, List.map_map]
  exact List.map_congr_left fun t ht => iTk_T (lx_ok h t ht).1
theorem prs_long {s : ByteArray} (h : 4000 < s.size) : prsS s = ([], 1, 0) := by unfold prsS; rw [if_pos h]
theorem prs_bad {s : ByteArray} {p : Nat} (h : ¬ 4000 < s.size) (hf : fb (lxT s 0) = some p) : prsS s = ([], 2, (p : Int)) := by unfold prsS; rw [if_neg h, hf]
theorem prs_pp {s : ByteArray} (h : ¬ 4000 < s.size) (hf : fb (lxT s 0) = none) : prsS s = match pprog (2 * (lxT s 0).length + 1) ((lxT s 0).length + 1) (seps ((lxT s 0).map tkT)) with | none => ([], 3, 0) | some ss => if ss.any S.bey = true then ([], 4, 0) else (ss.map S.tv, 0, 0) := by
  unfold prsS
  rw [if_neg h, hf]
  simp only
  rw [prog_eq (2 * (lxT s 0).length + 1) ((lxT s 0).length + 1) _ (by simp) (by simp)]
  cases pprog (2 * (lxT s 0).length + 1) ((lxT s 0).length + 1) (seps ((lxT s 0).map tkT)) with
  | none => rfl
  | some ss =>
    simp only
    have e : ss.all S.fine = !ss.any S.bey := by
      induction ss with
      | nil => rfl
      | cons s ss ih => rw [List.all_cons, List.any_cons, ih, S.fine_bey, Bool.not_or]
    rw [e]
    cases ss.any S.bey <;> rfl
theorem cellsI_at : ∀ (l : List Itk) (i : Nat) (t : Itk) (k : Nat), l[i]? = some t → k < 3 → (cellsI l)[i * 3 + k]? = t.cells[k]?
  | [], i, t, k, h, _ => by simp at h
  | x :: l, 0, t, k, h, hk => by
    have e : cellsI (x :: l) = x.cells ++ cellsI l := rfl
    have : x = t := by simpa using h
    subst this
    rw [e, List.getElem?_append_left (by simp [Itk.cells]; omega), Nat.zero_mul, Nat.zero_add]
  | x :: l, i + 1, t, k, h, hk => by
    have e : cellsI (x :: l) = x.cells ++ cellsI l := rfl
    have hx : x.cells.length = 3 := rfl
    rw [e, List.getElem?_append_right (by omega), ← cellsI_at l i t k (by simpa using h) hk, hx]
    congr 1
    omega
end Pl
theorem rdj_own {w : World} {B : Nat} {ao : Option Addr} {cap : Nat} {l : List Pl.Itk} (h : w.ownsRow B 79 3 (.slice ao l.length cap) l.length (Pl.cellsI l)) : RdJ w.heap.size w ao l := by
  by_cases h0 : l = []
  · exact .inl h0
  · obtain ⟨g, rfl, _, hlt, hc⟩ := owns_cell h (List.length_pos_iff.2 h0)
    refine .inr ⟨g, 0, hlt, rfl, fun i t hi => ?_⟩
    have hil : i < l.length := (List.getElem?_eq_some_iff.1 hi).1
    have c (k : Nat) (hk : k < 3) : w.cell? ⟨g, 0 + i * 3 + k, none⟩ = t.cells[k]? := by
      rw [Nat.zero_add, hc _ (by omega), Pl.cellsI_at l i t k hi hk]
    exact ⟨c 0 (by omega), c 1 (by omega), c 2 (by omega)⟩
/-- what Parse gives -/
def PoP (s : ByteArray) (w : World) (e : Ending) (w' : World) : Prop := ∃ v F, e = .returned (.tuple #[v, .int .i64 (Pl.prsS s).2.1, .int .i64 (Pl.prsS s).2.2]) ∧ Below w.heap.size w w' ∧ OwP w' v (Pl.prsS s).1 F ∧ Inb w.heap.size w' F
theorem PoP.none_ {s : ByteArray} {w w' : World} {a b : Int} (h : Pl.prsS s = ([], a, b)) (hb : Below w.heap.size w w') : PoP s w (.returned (.tuple #[.slice none 0 0, .int .i64 a, .int .i64 b])) w' := by
  refine ⟨.slice none 0 0, [], ?_, hb, ?_, Inb.nil _ _⟩
  · rw [h]
  · rw [h]; exact Own.nil _
set_option maxHeartbeats 2000000 in
/-- impl.Parse -/
theorem implParse_any (s : ByteArray) (mb mo cp : Nat) (w : World) (hm : Mt w mb mo cp) (hsz : s.size ≤ 1048576) : Calls Tryz.prog 7 #[.string s] w (PoP s w) := by
  by_cases h4 : 4000 < s.size
  · have HP : Hid (PoP s w (.returned (.tuple #[.slice none 0 0, .int .i64 1, .int .i64 0])) w) := PoP.none_ (Pl.prs_long h4) (Below.refl _ _)
    generalize hn : s.size = n at *
    have h4' : (4000 : Int) < (n : Int) := by omega
    clear hm
    go_enter Tryz.func7, Tryz.ntmps7
    go_wp2_with fail
    refine bodyPost_ret (v := .tuple #[.slice none 0 0, .int .i64 1, .int .i64 0]) (by simp [results, Tryz.results7, go_sem]) rfl HP.out
  · have K12 := hideP (tokensOf_any s mb mo cp w hm (by omega))
    have HL : Hid ((Pl.lxT s 0).length ≤ 4000) := by have := Pl.len_le s.size s 0 (by omega); show _ ≤ _; omega
    have H4 := hideP h4
    generalize hn : s.size = n at h4 hsz
    have hn' : Hid (s.size = n) := hn
    have h4' : ¬ (4000 : Int) < (n : Int) := by omega
    have hz0 : 1 < w.heap.size := hm.z
    have hmb : mb < w.heap.size := hm.b
    have HM := hideP hm
    clear hm h4
    cases hf : Pl.fb (Pl.lxT s 0) with
    | some p =>
      have HP : Hid (∀ w', Below w.heap.size w w' → PoP s w (.returned (.tuple #[.slice none 0 0, .int .i64 2, .int .i64 p])) w') := fun w' hb => PoP.none_ (Pl.prs_bad H4.out hf) hb
      have K : Hid (Calls Tryz.prog 16 #[.string s] w fun e w' => e = .returned (.tuple #[.slice none 0 0, .int .i64 p, .bool false]) ∧ Below w.heap.size w w') := by
        refine K12.out.mono ?_
        intro e w' h
        unfold PoT at h
        rw [hf] at h
        exact h
      clear K12 hf HM
      go_enter Tryz.func7, Tryz.ntmps7
      go_wp2_with fail
      refine K.out.mono ?_
      rintro e w1 ⟨rfl, hb1⟩
      go_wp2_with fail
      refine bodyPost_ret (v := .tuple #[.slice none 0 0, .int .i64 2, .int .i64 p]) (by simp [results, Tryz.results7, go_sem]) rfl (HP.out _ hb1)
    | none =>
      have K : Hid (Calls Tryz.prog 16 #[.string s] w fun e w' => ∃ ao cap, e = .returned (.tuple #[.slice ao (Pl.lxT s 0).length cap, .int .i64 0, .bool true]) ∧ w'.ownsRow w.heap.size 79 3 (.slice ao (Pl.lxT s 0).length cap) (Pl.lxT s 0).length (Pl.cellsI ((Pl.lxT s 0).map Pl.iTk)) ∧ Below w.heap.size w w') := by
        refine K12.out.mono ?_
        intro e w' h
        unfold PoT at h
        rw [hf] at h
        exact h
      have HR := hideP (Pl.prs_pp H4.out hf)
      have HI := hideP (Pl.lx_iok hf)
      have HT := hideP (Pl.lx_T hf)
      have HLL : Hid (((Pl.lxT s 0).map Pl.iTk).length = (Pl.lxT s 0).length) := List.length_map ..
      rw [← HT.out] at HR
      generalize hll : (Pl.lxT s 0).length = ln at *
      generalize (Pl.lxT s 0).map Pl.iTk = l at *
      clear K12 hf HT hll
      go_enter Tryz.func7, Tryz.ntmps7
      go_wp2_with fail
      refine K.out.mono ?_
      rintro e w1 ⟨ao, cap, rfl, ho1, hb1⟩
      have hs1 := hb1.size
      have BA : Below w1.heap.size w1 (w1.alloc (.cells #[.slice ao ln cap, .int .i64 0, .int .i64 0, .bool false] 54)) := (Below.refl _ _).alloc (Nat.le_refl _) _
      have HB : Hid (Below w.heap.size w (w1.alloc (.cells #[.slice ao ln cap, .int .i64 0, .int .i64 0, .bool false] 54))) := hb1.trans (BA.mono hs1)
      have K13 : Hid (Calls Tryz.prog 17 #[.pointer (some ⟨w1.heap.size, 0, none⟩)] (w1.alloc (.cells #[.slice ao ln cap, .int .i64 0, .int .i64 0, .bool false] 54)) (PoR l w1.heap.size cap ao false (w1.alloc (.cells #[.slice ao ln cap, .int .i64 0, .int .i64 0, .bool false] 54)) (Pl.pprog (2 * ln + 1) (ln + 1) (Pl.seps (Pl.rI l 0))))) := by
        have hl := HLL.out
        have hL := HL.out
        refine program_any (2 * ln + 1) (ln + 1) l w1.heap.size cap 0 mb mo cp ao false _ (by omega) (by omega) (by omega) (by omega) HI.out ?_ ?_
        · refine ⟨?_, HM.out.keep (HB.out), by omega, by omega⟩
          have hr : RdJ w1.heap.size w1 ao l := rdj_own (B := w.heap.size) (cap := cap) (by rw [hl]; exact ho1)
          exact hr.keep BA
        · rw [hl]
          exact ⟨by simp, by simp [go_sem], by simp [go_sem], by simp [go_sem], by simp [go_sem], fun j => by simp [go_sem]⟩
      clear ho1 hb1 K
      generalize Pl.pprog (2 * ln + 1) (ln + 1) (Pl.seps (Pl.rI l 0)) = R at *
      go_wp2_with fail
      refine K13.out.mono ?_
      intro e w2 h2
      cases R with
      | none =>
        obtain ⟨a', be', rfl, hI2⟩ := h2
        have HP : Hid (PoP s w (.returned (.tuple #[.slice none 0 0, .int .i64 3, .int .i64 0])) w2) := PoP.none_ HR.out (HB.out.trans (below_p (by simp) hI2.g |>.mono hs1))
        clear hI2 K13 HM BA HB HR
        go_wp2_with fail
        refine bodyPost_ret (v := .tuple #[.slice none 0 0, .int .i64 3, .int .i64 0]) (by simp [results, Tryz.results7, go_sem]) rfl HP.out
      | some ss =>
        obtain ⟨v, F, a', rfl, hO2, hI2, hX2⟩ := h2
        obtain ⟨ag, cg, rfl⟩ := hO2.slice
        have hB2 := HB.out.trans (below_p (by simp) hX2.g |>.mono hs1)
        have hc3 := hX2.ps.c3
        cases hb : ss.any Pl.S.bey
        · have HP : Hid (PoP s w (.returned (.tuple #[.slice ag (ss.map Pl.S.tv).length cg, .int .i64 0, .int .i64 0])) w2) := by
            have e : Pl.prsS s = (ss.map Pl.S.tv, 0, 0) := by rw [HR.out]; simp only; rw [hb]; rfl
            refine ⟨_, F, by rw [e], hB2, by rw [e]; exact hO2, hI2.up (by simp; omega) (Nat.le_refl _)⟩
          rw [hb] at hc3
          generalize (ss.map Pl.S.tv).length = ns at *
          clear hI2 hO2 hX2 hB2 K13 HM BA HB HR hb
          go_wp2_with fail
          refine bodyPost_ret (v := .tuple #[.slice ag ns cg, .int .i64 0, .int .i64 0]) (by simp [results, Tryz.results7, go_sem]) rfl HP.out
        · have HP : Hid (PoP s w (.returned (.tuple #[.slice none 0 0, .int .i64 4, .int .i64 0])) w2) := PoP.none_ (by rw [HR.out]; simp only; rw [hb]; rfl) hB2
          rw [hb] at hc3
          generalize (ss.map Pl.S.tv).length = ns at *
          clear hI2 hO2 hX2 hB2 K13 HM BA HB HR hb
          go_wp2_with fail
          refine bodyPost_ret (v := .tuple #[.slice none 0 0, .int .i64 4, .int .i64 0]) (by simp [results, Tryz.results7, go_sem]) rfl HP.out
/-- a list in memory that can be written -/
def Hd {α : Type} (z : Nat) (Q : World → List Value → α → List Nat → Prop) (w : World) (v : Value) (c : List α) (F : List Nat) : Prop :=
  ∃ ao cap, v = .slice ao c.length cap ∧ (c = [] ∨ ∃ g xs fp, ao = some ⟨g, 0, none⟩ ∧ F = g :: fp ∧ RowQ Q w xs c fp ∧ F.Nodup ∧ (∀ b ∈ F, b < w.heap.size) ∧ (∀ j u, xs[j]? = some u → w.cell? ⟨g, j, none⟩ = some u) ∧ ∀ j, w.frozen? ⟨g, j, none⟩ = false)
theorem lt_of_same {w w' : World} {b : Nat} (h : w'.heap[b]? = w.heap[b]?) (hb : b < w.heap.size) : b < w'.heap.size := by
  rw [Array.getElem?_eq_getElem hb] at h
  exact (Array.getElem?_eq_some_iff.1 h).1
theorem Hd.keep {α : Type} {z : Nat} {Q : World → List Value → α → List Nat → Prop} (L : Lives Q) {w w' : World} {v : Value} {c : List α} {F : List Nat} (h : Hd z Q w v c F) (k : ∀ b ∈ F, w'.heap[b]? = w.heap[b]?) : Hd z Q w' v c F := by
  obtain ⟨ao, cap, rfl, h⟩ := h
  refine ⟨ao, cap, rfl, ?_⟩
  rcases h with h | ⟨g, xs, fp, rfl, rfl, h1, h2, h3, h4, h5⟩
  · exact .inl h
  · refine .inr ⟨g, xs, fp, rfl, rfl, h1.keep L (fun b hb => k b (List.mem_cons_of_mem _ hb)), h2, fun b hb => lt_of_same (k b hb) (h3 b hb), fun j u hu => ?_, fun j => ?_⟩
    · exact (World.cell?_of_block (a := ⟨g, j, none⟩) (k g (by simp))).trans (h4 j u hu)
    · exact (World.frozen?_of_block (a := ⟨g, j, none⟩) (k g (by simp))).trans (h5 j)
theorem RowQ.map {α : Type} {Q R : World → List Value → α → List Nat → Prop} (hQ : ∀ w x a f, Q w x a f → (∀ b ∈ f, b < w.heap.size) → R w x a f) {w : World} : ∀ {xs : List Value} {c : List α} {F : List Nat}, RowQ Q w xs c F → (∀ b ∈ F, b < w.heap.size) → RowQ R w xs c F
  | xs, [], F, h, _ => h
  | xs, a :: c, F, h, k => by
    obtain ⟨x, xs', f, F', rfl, rfl, h1, h2⟩ := h
    exact ⟨x, xs', f, F', rfl, rfl, hQ _ _ _ _ h1 (fun b hb => k b (List.mem_append_left _ hb)), h2.map hQ (fun b hb => k b (List.mem_append_right _ hb))⟩
theorem Own.hd {α : Type} {et z : Nat} {Q R : World → List Value → α → List Nat → Prop} (hQ : ∀ w x a f, Q w x a f → (∀ b ∈ f, b < w.heap.size) → R w x a f) {w : World} {v : Value} {c : List α} {F : List Nat} (h : Own et z Q w v c F) (hF : ∀ b ∈ F, b < w.heap.size) : Hd z R w v c F := by
  by_cases hc : c = []
  · obtain ⟨ao, cap, rfl⟩ := h.slice
    exact ⟨ao, cap, rfl, .inl hc⟩
  · obtain ⟨g, cap, xs, fp, rfl, rfl, h1, h2, h3, h4, h5, h6⟩ := h.cells hc
    exact ⟨_, cap, rfl, .inr ⟨g, xs, fp, rfl, rfl, h2.map hQ (fun b hb => hF b (List.mem_cons_of_mem _ hb)), h3, hF, h5, h6⟩⟩
abbrev HdI := Hd 1 Qi
def Qs' (w : World) (x : List Value) (s : Pl.Sv) (f : List Nat) : Prop := ∃ v, x = [.int .i64 s.k, v, .string (Pl.ba s.nm), .int .i64 s.fn.k, .int .i64 s.fn.a, .int .i64 s.fn.b, .string (Pl.ba s.fn.nm)] ∧ HdI w v s.nums f
theorem Qs'.lives : Lives Qs' := ⟨fun _ _ _ _ _ ⟨v, h1, h2⟩ k => ⟨v, h1, h2.keep Qi.lives k⟩⟩
abbrev HdS := Hd 7 Qs'
def Qg' (w : World) (x : List Value) (g : Pl.Gv) (f : List Nat) : Prop := ∃ v1 v2 f1 f2, x = [v1, v2] ∧ f = f1 ++ f2 ∧ HdS w v1 g.test f1 ∧ HdS w v2 g.thn f2
theorem Qg'.lives : Lives Qg' := ⟨fun _ _ _ _ _ ⟨v1, v2, f1, f2, h1, h2, h3, h4⟩ k => ⟨v1, v2, f1, f2, h1, h2, h3.keep Qs'.lives (fun b hb => k b (h2 ▸ List.mem_append_left _ hb)), h4.keep Qs'.lives (fun b hb => k b (h2 ▸ List.mem_append_right _ hb))⟩⟩
abbrev HdG := Hd 2 Qg'
def Qt' (w : World) (x : List Value) (s : Pl.Tv) (f : List Nat) : Prop := ∃ v1 v2 f1 f2, x = [.int .i64 s.k, .string (Pl.ba s.nm), v1, v2] ∧ f = f1 ++ f2 ∧ HdS w v1 s.code f1 ∧ HdG w v2 s.gs f2
theorem Qt'.lives : Lives Qt' := ⟨fun _ _ _ _ _ ⟨v1, v2, f1, f2, h1, h2, h3, h4⟩ k => ⟨v1, v2, f1, f2, h1, h2, h3.keep Qs'.lives (fun b hb => k b (h2 ▸ List.mem_append_left _ hb)), h4.keep Qg'.lives (fun b hb => k b (h2 ▸ List.mem_append_right _ hb))⟩⟩
abbrev HdP := Hd 4 Qt'
theorem Qs.to (w : World) (x : List Value) (s : Pl.Sv) (f : List Nat) (h : Qs w x s f) (hf : ∀ b ∈ f, b < w.heap.size) : Qs' w x s f := by
  obtain ⟨v, h1, h2⟩ := h
  exact ⟨v, h1, h2.hd (fun _ _ _ _ h _ => h) hf⟩
theorem Qg.to (w : World) (x : List Value) (s : Pl.Gv) (f : List Nat) (h : Qg w x s f) (hf : ∀ b ∈ f, b < w.heap.size) : Qg' w x s f := by
  obtain ⟨v1, v2, f1, f2, h1, rfl, h3, h4⟩ := h
  exact ⟨v1, v2, f1, f2, h1, rfl, h3.hd Qs.to (fun b hb => hf b (List.mem_append_left _ hb)), h4.hd Qs.to (fun b hb => hf b (List.mem_append_right _ hb))⟩
theorem Qt.to (w : World) (x : List Value) (s : Pl.Tv) (f : List Nat) (h : Qt w x s f) (hf : ∀ b ∈ f, b < w.heap.size) : Qt' w x s f := by
  obtain ⟨v1, v2, f1, f2, h1, rfl, h3, h4⟩ := h
  exact ⟨v1, v2, f1, f2, h1, rfl, h3.hd Qs.to (fun b hb => hf b (List.mem_append_left _ hb)), h4.hd Qg.to (fun b hb => hf b (List.mem_append_right _ hb))⟩
theorem OwP.hd {w : World} {v : Value} {c : List Pl.Tv} {F : List Nat} {B : Nat} (h : OwP w v c F) (hi : Inb B w F) : HdP w v c F := Own.hd Qt.to h (fun b hb => (hi b hb).2)
/-- a record is being written -/
structure Sd (z : Nat) (wr W : World) (g i : Nat) (f : List Nat) (y : List Value) : Prop where
  os : W.os = wr.os
  tape : W.tape = wr.tape
  output : W.output = wr.output
  sz : wr.heap.size ≤ W.heap.size
  blk : ∀ b, b < wr.heap.size → b ≠ g → b ∉ f → W.heap[b]? = wr.heap[b]?
  cel : ∀ j, (j < i * z ∨ i * z + z ≤ j) → W.cell? ⟨g, j, none⟩ = wr.cell? ⟨g, j, none⟩
  fro : ∀ j, W.frozen? ⟨g, j, none⟩ = false
  cur : ∀ j u, y[j]? = some u → W.cell? ⟨g, i * z + j, none⟩ = some u
  len : y.length = z
  glt : g < wr.heap.size
  gf : g ∉ f
section
variable {z : Nat} {wr W W' : World} {g i : Nat} {f : List Nat} {y : List Value}
end
/-- one record of a list: what it is, and how another is put in its place -/
theorem Hd.focus {α : Type} {z : Nat} {Q : World → List Value → α → List Nat → Prop} (L : Lives Q) (hz : ∀ {w : World} {x : List Value} {a : α} {f : List Nat}, Q w x a f → x.length = z) {w : World} {v : Value} {c1 : List α} {a : α} {c2 : List α} {F : List Nat} (h : Hd z Q w v (c1 ++ a :: c2) F) :
    ∃ g cap x f, v = .slice (some ⟨g, 0, none⟩) (c1 ++ a :: c2).length cap ∧ Q w x a f ∧ Sd z w w g c1.length f x ∧ g ∈ F ∧ (∀ b ∈ f, b ∈ F) ∧ f.Nodup ∧ (∀ b ∈ f, b < w.heap.size) ∧
      ∀ (w' : World) (x' : List Value) (a' : α), Sd z w w' g c1.length f x' → Q w' x' a' f → Hd z Q w' v (c1 ++ a' :: c2) F := by
  obtain ⟨ao, cap, rfl, h⟩ := h
  rcases h with h | ⟨g, xs, fp, rfl, rfl, h1, h2, h3, h4, h5⟩
  · simp at h
  · have sp : ∀ {c1 : List α} {xs : List Value} {fp : List Nat}, RowQ Q w xs (c1 ++ a :: c2) fp → ∃ x1 x x2 f1 f f2, xs = x1 ++ (x ++ x2) ∧ fp = f1 ++ (f ++ f2) ∧ RowQ Q w x1 c1 f1 ∧ Q w x a f ∧ RowQ Q w x2 c2 f2 ∧ x1.length = c1.length * z := by
      intro c1
      induction c1 with
      | nil =>
        intro xs fp h
        obtain ⟨x, xs', f, F', rfl, rfl, q1, q2⟩ := h
        exact ⟨[], x, xs', [], f, F', rfl, rfl, ⟨rfl, rfl⟩, q1, q2, by simp⟩
      | cons b c1 ih =>
        intro xs fp h
        obtain ⟨x, xs', f, F', rfl, rfl, q1, q2⟩ := h
        obtain ⟨x1, y, x2, f1, f', f2, rfl, rfl, r1, r2, r3, r4⟩ := ih q2
        refine ⟨x ++ x1, y, x2, f ++ f1, f', f2, by simp, by simp, ⟨x, x1, f, f1, rfl, rfl, q1, r1⟩, r2, r3, ?_⟩
        rw [List.length_append, r4, hz q1, List.length_cons, Nat.succ_mul]
        omega
    obtain ⟨x1, x, x2, f1, f, f2, rfl, rfl, r1, r2, r3, r4⟩ := sp h1
    have hx := hz r2
    have hnd := h2
    rw [List.nodup_cons, List.nodup_append, List.nodup_append] at hnd
    obtain ⟨hg, n1, ⟨n2, n3, n23⟩, n123⟩ := hnd
    have hgf : g ∉ f := fun hm => hg (by simp [hm])
    refine ⟨g, cap, x, f, rfl, r2, ⟨rfl, rfl, rfl, Nat.le_refl _, fun _ _ _ _ => rfl, fun _ _ => rfl, h5, fun j u hu => ?_, hx, h3 g (by simp), hgf⟩, by simp, fun b hb => by simp [hb], n2, fun b hb => h3 b (by simp [hb]), fun w' x' a' hS hQ => ?_⟩
    · refine h4 _ u ?_
      have hj : j < x.length := (List.getElem?_eq_some_iff.1 hu).1
      rw [List.getElem?_append_right (by omega), List.getElem?_append_left (by omega)]
      rw [← hu]
      congr 1
      omega
    · have k1 : ∀ b ∈ f1, w'.heap[b]? = w.heap[b]? := fun b hb => hS.blk b (h3 b (by simp [hb])) (fun e => hg (by rw [← e]; simp [hb])) (fun hm => n123 b hb b (by simp [hm]) rfl)
      have k2 : ∀ b ∈ f2, w'.heap[b]? = w.heap[b]? := fun b hb => hS.blk b (h3 b (by simp [hb])) (fun e => hg (by rw [← e]; simp [hb])) (fun hm => n23 b hm b hb rfl)
      have hx' := hz hQ
      refine ⟨_, cap, by simp, .inr ⟨g, x1 ++ (x' ++ x2), f1 ++ (f ++ f2), rfl, rfl, (r1.keep L k1).app (c := c1) (d := a' :: c2) ⟨x', x2, f, f2, rfl, rfl, hQ, r3.keep L k2⟩, h2, fun b hb => Nat.lt_of_lt_of_le (h3 b hb) hS.sz, fun j u hu => ?_, hS.fro⟩⟩
      by_cases hj1 : j < c1.length * z
      · rw [hS.cel j (.inl hj1)]
        refine h4 j u ?_
        rw [List.getElem?_append_left (by omega)] at hu ⊢
        exact hu
      · by_cases hj2 : j < c1.length * z + z
        · have := hS.cur (j - c1.length * z) u (by
            rw [List.getElem?_append_right (by omega), List.getElem?_append_left (by omega)] at hu
            rw [← hu]
            congr 1
            omega)
          rw [show c1.length * z + (j - c1.length * z) = j by omega] at this
          exact this
        · rw [hS.cel j (.inr (by omega))]
          refine h4 j u ?_
          rw [List.getElem?_append_right (by omega), List.getElem?_append_right (by omega)] at hu ⊢
          rw [hx'] at hu
          rw [hx]
          exact hu
theorem Hd.form {α : Type} {z : Nat} {Q : World → List Value → α → List Nat → Prop} {w : World} {v : Value} {c : List α} {F : List Nat} (h : Hd z Q w v c F) : ∃ ao cap, v = .slice ao c.length cap := by
  obtain ⟨ao, cap, rfl, _⟩ := h
  exact ⟨ao, cap, rfl⟩
theorem Qi.len' {w : World} {x : List Value} {a : Int} {f : List Nat} (h : Qi w x a f) : x.length = 1 := by rw [h.1]; rfl
theorem Qs'.len {w : World} {x : List Value} {a : Pl.Sv} {f : List Nat} (h : Qs' w x a f) : x.length = 7 := by obtain ⟨v, rfl, _⟩ := h; rfl
theorem Qg'.len {w : World} {x : List Value} {a : Pl.Gv} {f : List Nat} (h : Qg' w x a f) : x.length = 2 := by obtain ⟨v1, v2, f1, f2, rfl, _⟩ := h; rfl
theorem Qt'.len {w : World} {x : List Value} {a : Pl.Tv} {f : List Nat} (h : Qt' w x a f) : x.length = 4 := by obtain ⟨v1, v2, f1, f2, rfl, _⟩ := h; rfl
/-- what is held is read -/
theorem Hd.at {α : Type} {z : Nat} {Q : World → List Value → α → List Nat → Prop} (L : Lives Q) (hz : ∀ {w : World} {x : List Value} {a : α} {f : List Nat}, Q w x a f → x.length = z) {w : World} {ao : Option Addr} {n cap : Nat} {c : List α} {F : List Nat} (h : Hd z Q w (.slice ao n cap) c F) :
    c = [] ∨ ∃ b off, b < w.heap.size ∧ ao = some ⟨b, off, none⟩ ∧ ∀ (i : Nat) (a : α), c[i]? = some a → ∃ x f, Q w x a f ∧ ∀ j u, x[j]? = some u → w.cell? ⟨b, off + i * z + j, none⟩ = some u := by
  obtain ⟨ao', cap', e, h'⟩ := id h
  have e1 := (Value.slice.inj e).1
  subst e1
  rcases h' with h' | ⟨g, xs, fp, rfl, rfl, _, _, h3, _, _⟩
  · exact .inl h'
  · refine .inr ⟨g, 0, h3 g (by simp), rfl, fun i a hi => ?_⟩
    obtain ⟨hil, hia⟩ := List.getElem?_eq_some_iff.1 hi
    have ec : c = c.take i ++ (a :: c.drop (i + 1)) := by rw [← hia, ← List.drop_eq_getElem_cons hil, List.take_append_drop]
    have hh := h
    rw [ec] at hh
    obtain ⟨g', cap2, x, f, hv, hQ, hS, _⟩ := hh.focus L hz
    have hg : g = g' := by
      have := (Value.slice.inj hv).1
      simpa using this
    subst hg
    have hl : (c.take i).length = i := by rw [List.length_take]; omega
    refine ⟨x, f, hQ, fun j u hu => ?_⟩
    have := hS.cur j u hu
    rw [hl] at this
    rw [Nat.zero_add]
    exact this
theorem HdI.rd {w : World} {ao : Option Addr} {n cap : Nat} {c : List Int} {F : List Nat} (h : HdI w (.slice ao n cap) c F) : RdI w.heap.size w ao c := by
  rcases h.at Qi.lives Qi.len' with h | ⟨b, off, hb, rfl, hc⟩
  · exact .inl h
  · refine .inr ⟨b, off, hb, rfl, fun i a hi => ?_⟩
    obtain ⟨x, f, ⟨rfl, rfl⟩, h⟩ := hc i a hi
    have := h 0 _ rfl
    simpa using this
theorem HdS.rd {w : World} {ao : Option Addr} {n cap : Nat} {c : List Pl.Sv} {F : List Nat} (h : HdS w (.slice ao n cap) c F) : RdS w.heap.size w ao c := by
  rcases h.at Qs'.lives Qs'.len with h | ⟨b, off, hb, rfl, hc⟩
  · exact .inl h
  · refine .inr ⟨b, off, hb, rfl, fun i a hi => ?_⟩
    obtain ⟨x, f, ⟨v, rfl, hI⟩, h⟩ := hc i a hi
    obtain ⟨an, cn, rfl⟩ := hI.form
    exact ⟨an, cn, h 0 _ rfl, h 1 _ rfl, h 2 _ rfl, h 3 _ rfl, h 4 _ rfl, h 5 _ rfl, h 6 _ rfl, hI.rd⟩
theorem HdG.rd {w : World} {ao : Option Addr} {n cap : Nat} {c : List Pl.Gv} {F : List Nat} (h : HdG w (.slice ao n cap) c F) : RdG w.heap.size w ao c := by
  rcases h.at Qg'.lives Qg'.len with h | ⟨b, off, hb, rfl, hc⟩
  · exact .inl h
  · refine .inr ⟨b, off, hb, rfl, fun i a hi => ?_⟩
    obtain ⟨x, f, ⟨v1, v2, f1, f2, rfl, _, hA, hB⟩, h⟩ := hc i a hi
    obtain ⟨a1, c1, rfl⟩ := hA.form
    obtain ⟨a2, c2, rfl⟩ := hB.form
    exact ⟨a1, a2, c1, c2, h 0 _ rfl, h 1 _ rfl, hA.rd, hB.rd⟩
theorem HdP.rd {w : World} {ao : Option Addr} {n cap : Nat} {c : List Pl.Tv} {F : List Nat} (h : HdP w (.slice ao n cap) c F) : RdP w.heap.size w ao c := by
  rcases h.at Qt'.lives Qt'.len with h | ⟨b, off, hb, rfl, hc⟩
  · exact .inl h
  · refine .inr ⟨b, off, hb, rfl, fun i a hi => ?_⟩
    obtain ⟨x, f, ⟨v1, v2, f1, f2, rfl, _, hA, hB⟩, h⟩ := hc i a hi
    obtain ⟨a1, c1, rfl⟩ := hA.form
    obtain ⟨a2, c2, rfl⟩ := hB.form
    exact ⟨a1, a2, c1, c2, h 0 _ rfl, h 1 _ rfl, h 2 _ rfl, h 3 _ rfl, hA.rd, hB.rd⟩
namespace Pl
theorem bt_ba {x : List UInt8} {j : Nat} (h : j < x.length) : bt (ba x) j = ((x[j]).toNat : Int) := by
  unfold bt ba
  simp [h]
theorem dv_congr {s t : ByteArray} : ∀ k, (∀ j, j < k → bt s j = bt t j) → dv s k = dv t k
  | 0, _ => rfl
  | k + 1, h => by
    show dv s k * 10 + (bt s k - 48) = dv t k * 10 + (bt t k - 48)
    rw [dv_congr k (fun j hj => h j (by omega)), h k (by omega)]
theorem dv_snoc (x : List UInt8) (c : UInt8) : dv (ba (x ++ [c])) (x ++ [c]).length = dv (ba x) x.length * 10 + ((c.toNat : Int) - 48) := by
  have e : (x ++ [c]).length = x.length + 1 := by simp
  rw [e]
  show dv (ba (x ++ [c])) x.length * 10 + (bt (ba (x ++ [c])) x.length - 48) = _
  rw [bt_ba (by simp), dv_congr (t := ba x) x.length (fun j hj => by rw [bt_ba (by simp; omega), bt_ba hj, List.getElem_append_left hj])]
  simp
theorem dv_dig (u : Nat) : dv (ba (Lib.decDigits u)) (Lib.decDigits u).length = u := by
  induction u using Nat.strongRecOn with
  | _ u ih =>
    rw [Lib.decDigits]
    split
    · rename_i h
      have := dv_snoc [] (UInt8.ofNat (48 + u))
      rw [List.nil_append] at this
      rw [this]
      have e : (UInt8.ofNat (48 + u)).toNat = 48 + u := by rw [UInt8.toNat_ofNat']; omega
      rw [e]
      simp [dv]
      omega
    · rename_i h
      rw [dv_snoc, ih (u / 10) (by omega)]
      have e : (UInt8.ofNat (48 + u % 10)).toNat = 48 + u % 10 := by rw [UInt8.toNat_ofNat']; omega
      rw [e]
      omega
theorem dig_len : ∀ (k u : Nat), u < 10 ^ (k + 1) → (Lib.decDigits u).length ≤ k + 1
  | 0, u, h => by
    rw [Lib.decDigits, dif_pos (by omega)]
    simp
  | k + 1, u, h => by
    rw [Lib.decDigits]
    split
    · simp
    · have h10 : 10 ^ (k + 1 + 1) = 10 ^ (k + 1) * 10 := Nat.pow_succ ..
      have := dig_len k (u / 10) (by omega)
      simp
      omega
theorem numR_dig (u : Nat) (h : u ≤ 3000000000) : numR (ba (Lib.decDigits u)) = ((u : Int), true) := by
  have hs : (ba (Lib.decDigits u)).size = (Lib.decDigits u).length := ba_size _
  have hd : digs (ba (Lib.decDigits u)) (ba (Lib.decDigits u)).size := fun j hj => by
    rw [hs] at hj
    rw [bt_ba hj, digI_iff]
    have := dig_mem u _ (List.getElem_mem hj)
    omega
  have hl : (Lib.decDigits u).length ≤ 10 := dig_len 9 u (by omega)
  have hp : 0 < (Lib.decDigits u).length := List.length_pos_iff.2 (dig_ne u)
  unfold numR
  rw [if_pos ⟨hd, by omega⟩, hs, dv_dig]
  simp
  exact ⟨hp, by omega⟩
theorem al_dig {c : UInt8} (h : 48 ≤ c.toNat ∧ c.toNat ≤ 57) : al c = true := by
  unfold al isD
  simp only [Bool.or_eq_true, Bool.and_eq_true, decide_eq_true_eq, UInt8.le_iff_toNat_le]
  exact .inr ⟨h.1, h.2⟩
theorem wTok_num {x : List UInt8} {n : Int} (h0 : bt (ba x) 0 = 95 ∨ digI (bt (ba x) 0) = true) (hn : numS (ba x) = (n, true)) : wTok x 0 = ⟨110, ba x, n, 0⟩ := by
  unfold wTok
  rw [if_pos h0, hn]
  rfl
/-- what Print writes for a number is its token -/
theorem nt_ok : NtOk nt := by
  refine ⟨nt_fine, fun n h1 h2 => ?_⟩
  have key : ∀ (c : UInt8) (y : List UInt8), nt n = c :: y → (c = 95 ∨ al c = true) → y.all al = true → (bt (ba (c :: y)) 0 = 95 ∨ digI (bt (ba (c :: y)) 0) = true) → numS (ba (c :: y)) = (n, true) → gkB (nt n) = true ∧ kT (nt n) = .num n := by
    intro c y e hc hy hb hs
    have hw : isWd (c :: y) = true := by
      unfold isWd
      rcases hc with r | r
      · simp [r]
      · simp [r]
    have ht := wTok_num hb hs
    rw [e]
    unfold gkB kT wT
    simp only [hw, ht, hy]
    exact ⟨by decide, rfl⟩
  by_cases hneg : n < 0
  · have e : nt n = 95 :: Lib.decDigits n.natAbs := by unfold nt; rw [if_pos hneg]
    have hb : bt (ba (95 :: Lib.decDigits n.natAbs)) 0 = 95 := by rw [bt_ba (by simp)]; rfl
    refine key 95 _ e (.inl rfl) (List.all_eq_true.2 fun c hc => al_dig (dig_mem _ c hc)) (.inl hb) ?_
    have hx : (ba (95 :: Lib.decDigits n.natAbs)).extract 1 (ba (95 :: Lib.decDigits n.natAbs)).size = ba (Lib.decDigits n.natAbs) := by
      have := ext_drop (s := ba (95 :: Lib.decDigits n.natAbs)) (i := 1) (x := Lib.decDigits n.natAbs) (r := []) (by simp [ba])
      rw [← this]
      congr 1
      rw [ba_size, List.length_cons]
      omega
    unfold numS
    rw [if_pos hb, hx, numR_dig _ (by omega)]
    simp
    omega
  · have e : nt n = Lib.decDigits n.toNat := by unfold nt; rw [if_neg hneg]
    have hm := dig_mem n.toNat
    have hR := numR_dig n.toNat (by omega)
    cases hx : Lib.decDigits n.toNat with
    | nil => exact absurd hx (dig_ne _)
    | cons c y =>
      rw [hx] at e hm hR
      have hc := hm c (by simp)
      have hb : bt (ba (c :: y)) 0 = (c.toNat : Int) := by rw [bt_ba (by simp)]; rfl
      refine key c y e (.inr (al_dig hc)) (List.all_eq_true.2 fun d hd => al_dig (hm d (by simp [hd]))) (.inr (by rw [hb, digI_iff]; omega)) ?_
      unfold numS
      rw [if_neg (by rw [hb]; omega), hR]
      congr 1
      omega
/-- what Print writes, Parse reads -/
theorem prs_prt {p : List Tv} (h : (prt nt p).2 = true) : prsS (ba (prt nt p).1) = (p, 0, 0) ∧ (ba (prt nt p).1).size ≤ 4000 := by
  obtain ⟨l, h1, h2, h3, h4, h5⟩ := prt_rt nt_ok h
  refine ⟨?_, h3⟩
  rw [prs_pp (by omega) h4, h5]
  simp only
  rw [if_neg (by rw [h2]; simp), h1]
theorem prt_false {nt : Int → List UInt8} {p : List Tv} (h : (prt nt p).2 = false) : (prt nt p).1 = [] := by
  unfold prt at h ⊢
  split
  · rename_i hs
    rw [if_pos hs] at h
    split
    · rename_i t ht
      rw [ht] at h
      simp only at h
      split
      · rename_i hl
        rw [if_pos hl] at h
        cases h
      · rfl
    · rfl
  · rfl
end Pl
end Go.Proofs.YthhfpcdbgndioaaGreatDoor
