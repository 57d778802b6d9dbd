import Derived.Test.YtljkolffjjhgeaaGreatDoorMng
import Derived.Test.YtljkolffjjhgeaaGreatDoorBu
namespace Go.Proofs.YtljkolffjjhgeaaGreatDoor
open Go.RowKit
set_option linter.unusedVariables false
set_option maxRecDepth 100000
/-- slices.Contains of strings -/
theorem index_any (L : List ByteArray) (b o cap : Nat) (s : ByteArray) (w : World) (hl : L.length ≤ 1000000) (hc : ∀ j, j < L.length → w.cell? ⟨b, o + j, none⟩ = some (.string (L.getD j default))) :
    Calls Tryz.prog 90 #[.slice (some ⟨b, o, none⟩) L.length cap, .string s] w fun e w' => (∃ z : Int, e = .returned (.int .i64 z) ∧ decide (0 ≤ z) = Pl.hasB L s L.length) ∧ w' = w := by
  have HS : Hid (∀ k, k < L.length → Pl.hasB L s (k + 1) = (Pl.hasB L s k || decide (L.getD k default = s))) := fun k => Pl.hasB_snoc
  have HY : Hid (∀ k, k < L.length → L.getD k default = s → Pl.hasB L s L.length = true) := fun k => Pl.hasB_yes
  have HC := hideP hc
  clear hc
  generalize hn : L.length = n at *
  clear hn
  go_enter Tryz.func90, Tryz.ntmps90
  go_wp2
  go_loop [8] (fun v => ∃ k : Nat, k ≤ n ∧ v = .int .i64 k ∧ Hid (Pl.hasB L s k = false)) (fun v => n - (intOf v).toNat)
  case atStart => exact ⟨0, Nat.zero_le _, rfl, rfl⟩
  case round =>
    obtain ⟨k, hk, rfl, hst⟩ := hrel
    by_cases hlt : k < n
    · have hcell := HC.out k hlt
      have Y := hideP (HY.out k hlt)
      have N := hideP (HS.out k hlt)
      clear HY HS HC
      generalize L.getD k default = x at *
      by_cases hx : x = s
      · have HX := hideP (Y.out hx)
        have hq : (s.toList == x.toList) = true := by rw [ba_eq]; exact decide_eq_true hx.symm
        clear hx Y N
        go_wp2
        go_ret
        exact ⟨⟨_, rfl, by rw [HX.out, decide_eq_true (by omega)]⟩, rfl⟩
      · have HX := hideP (show Pl.hasB L s (k + 1) = false by rw [N.out, hst.out]; simp [hx])
        have hq : (s.toList == x.toList) = false := by rw [ba_eq]; exact decide_eq_false (fun e => hx e.symm)
        clear hx Y N
        go_wp2
        go_round
        case rel => exact ⟨k + 1, by omega, by go_num, HX.out⟩
        case measure => simp [intOf]; omega
    · obtain rfl : k = n := by omega
      clear HY HS HC
      go_wp2
      go_ret
      exact ⟨⟨_, rfl, by rw [hst.out]; rfl⟩, rfl⟩
theorem contains_any (L : List ByteArray) (b o cap : Nat) (s : ByteArray) (w : World) (hl : L.length ≤ 1000000) (hc : ∀ j, j < L.length → w.cell? ⟨b, o + j, none⟩ = some (.string (L.getD j default))) :
    Calls Tryz.prog 81 #[.slice (some ⟨b, o, none⟩) L.length cap, .string s] w fun e w' => e = .returned (.bool (Pl.hasB L s L.length)) ∧ w' = w := by
  have K := hideP (index_any L b o cap s w hl hc)
  clear hc
  generalize Pl.hasB L s L.length = r at *
  generalize L.length = n at *
  go_enter Tryz.func81, Tryz.ntmps81
  go_wp2_with (go_at_call 90; refine K.out.mono ?_; rintro e w' ⟨⟨z, rfl, hz⟩, rfl⟩)
  go_ret
  exact ⟨rfl, rfl⟩
namespace Pl
def setL : List ByteArray := [⟨#[40]⟩, ⟨#[64]⟩, ⟨#[46]⟩]
def setR : List ByteArray := [⟨#[41]⟩, ⟨#[47]⟩, ⟨#[92]⟩, ⟨#[46]⟩]
theorem lf_eq (s : ByteArray) : hasB setL s 3 = lfB s.data.toList := by
  rw [Bool.eq_iff_iff]
  simp only [hasB, setL, lfB, List.take, List.any_cons, List.any_nil, Bool.or_false, Bool.or_eq_true, decide_eq_true_eq, ba_iff, or_assoc]
  constructor <;> (rintro (h | h | h) <;> simp_all)
theorem rt_eq (s : ByteArray) : hasB setR s 4 = rtB s.data.toList := by
  rw [Bool.eq_iff_iff]
  simp only [hasB, setR, rtB, List.take, List.any_cons, List.any_nil, Bool.or_false, Bool.or_eq_true, decide_eq_true_eq, ba_iff, or_assoc]
  constructor <;> (rintro (h | h | h | h) <;> simp_all)
end Pl
/-- impl.together -/
theorem together_any (a c : ByteArray) (w : World) :
    Calls Tryz.prog 72 #[.string a, .string c] w fun e w' => e = .returned (.bool (Pl.tg a.data.toList c.data.toList)) ∧ Below w.heap.size w w' := by
  have HB : Hid (∀ o, Below w.heap.size w (w.alloc o)) := fun o => (Below.refl _ _).alloc (Nat.le_refl _) _
  have HB2 : Hid (∀ o o2, Below w.heap.size w ((w.alloc o).alloc o2)) := fun o o2 => ((Below.refl _ _).alloc (Nat.le_refl _) _).alloc (by simp) _
  have K1 : Hid (Calls Tryz.prog 81 #[.slice (some ⟨w.heap.size, 0, none⟩) 3 3, .string a] (w.alloc (.cells #[.string ⟨#[40]⟩, .string ⟨#[64]⟩, .string ⟨#[46]⟩] 9)) fun e w' => e = .returned (.bool (Pl.lfB a.data.toList)) ∧ w' = w.alloc (.cells #[.string ⟨#[40]⟩, .string ⟨#[64]⟩, .string ⟨#[46]⟩] 9)) := by
    rw [← Pl.lf_eq]
    exact contains_any Pl.setL w.heap.size 0 3 a _ (by decide) (by
      intro j hj
      match j, hj with
      | 0, _ => simp [go_sem]; rfl
      | 1, _ => simp [go_sem]; rfl
      | 2, _ => simp [go_sem]; rfl
      | j + 3, hj => exact absurd hj (by simp [Pl.setL]))
  have K2 : Hid (∀ w : World, Calls Tryz.prog 81 #[.slice (some ⟨w.heap.size, 0, none⟩) 4 4, .string c] (w.alloc (.cells #[.string ⟨#[41]⟩, .string ⟨#[47]⟩, .string ⟨#[92]⟩, .string ⟨#[46]⟩] 9)) fun e w' => e = .returned (.bool (Pl.rtB c.data.toList)) ∧ w' = w.alloc (.cells #[.string ⟨#[41]⟩, .string ⟨#[47]⟩, .string ⟨#[92]⟩, .string ⟨#[46]⟩] 9)) := fun w => by
    rw [← Pl.rt_eq]
    exact contains_any Pl.setR w.heap.size 0 4 c _ (by decide) (by
      intro j hj
      match j, hj with
      | 0, _ => simp [go_sem]; rfl
      | 1, _ => simp [go_sem]; rfl
      | 2, _ => simp [go_sem]; rfl
      | 3, _ => simp [go_sem]; rfl
      | j + 4, hj => exact absurd hj (by simp [Pl.setR]))
  have HT : Hid (Pl.tg a.data.toList c.data.toList = (Pl.lfB a.data.toList || Pl.rtB c.data.toList)) := rfl
  generalize Pl.tg a.data.toList c.data.toList = r at *
  generalize Pl.lfB a.data.toList = x at *
  generalize Pl.rtB c.data.toList = y at *
  cases x
  · have K3 : Hid (∀ o, Calls Tryz.prog 81 #[.slice (some ⟨w.heap.size + 1, 0, none⟩) 4 4, .string c] ((w.alloc o).alloc (.cells #[.string ⟨#[41]⟩, .string ⟨#[47]⟩, .string ⟨#[92]⟩, .string ⟨#[46]⟩] 9)) fun e w' => e = .returned (.bool y) ∧ w' = (w.alloc o).alloc (.cells #[.string ⟨#[41]⟩, .string ⟨#[47]⟩, .string ⟨#[92]⟩, .string ⟨#[46]⟩] 9)) := fun o => by
      have := K2.out (w.alloc o)
      rw [World.size_alloc] at this
      exact this
    clear K2
    go_enter Tryz.func72, Tryz.ntmps72
    go_wp2_with fail
    refine K1.out.mono ?_
    rintro e w1 ⟨rfl, rfl⟩
    go_wp2_with fail
    refine (K3.out _).mono ?_
    rintro e w2 ⟨rfl, rfl⟩
    go_wp2_with fail
    go_ret
    exact ⟨ret_bool (by rw [HT.out]; rfl), HB2.out _ _⟩
  · go_enter Tryz.func72, Tryz.ntmps72
    go_wp2_with fail
    refine K1.out.mono ?_
    rintro e w1 ⟨rfl, rfl⟩
    go_wp2_with fail
    go_ret
    exact ⟨ret_bool (by rw [HT.out]; rfl), HB.out _⟩
theorem grown_of_below' {w w' : World} (h : Below w.heap.size w w') (row : Option Nat) : w.grownBy w' row := ⟨h.os, h.tape, h.output, h.size, fun b hb _ => h.block b hb⟩
/-- a text that grows: in block b it holds the bytes l -/
abbrev Tx (B b : Nat) (l : List UInt8) (w : World) : Prop := Lib.IsBuilderF 56 5 B b (Lib.byteCells l) w
theorem Tx.keep {B b : Nat} {l : List UInt8} {w w' : World} (h : Tx B b l w) (hb : Below w.heap.size w w') : Tx B b l w' := by
  have key : ∀ p, Lib.BuilderAtF 56 5 B b p (Lib.byteCells l) w → Lib.BuilderAtF 56 5 B b p (Lib.byteCells l) w' := fun p hp => by
    have hlt := hp.lt
    obtain ⟨hB, v, hbk, hown, hne⟩ := hp
    refine ⟨hB, v, (hb.block b hlt).trans hbk, hown.kept (grown_of_below' hb none) ?_, hne⟩
    cases v.ownBlock <;> simp
  rcases h with h | h
  · exact .inl (key _ h)
  · exact .inr (key _ h)
theorem Tx.new (w : World) : Tx w.heap.size w.heap.size [] (w.alloc (.cells #[.pointer none, .slice none 0 0] 56)) := Lib.IsBuilderF.of (Lib.fresh_isBuilder 56 5 w)
theorem cells_app (l : List UInt8) (s : ByteArray) : Lib.byteCells l ++ Lib.strCells s = Lib.byteCells (l ++ s.data.toList) := by simp [Lib.byteCells, Lib.strCells]
theorem cells_one (l : List UInt8) (c : UInt8) (ci : Int) (h : ci = c.toNat) : Lib.byteCells l ++ [.int .u8 ci] = Lib.byteCells (l ++ [c]) := by simp [Lib.byteCells, h]
theorem tx_byte (B b : Nat) (l : List UInt8) (c : UInt8) (ci : Int) (hc : ci = c.toNat) (w : World) (h : Tx B b l w) (hl : l.length ≤ 1000000000) (hB : B ≤ w.heap.size) :
    Calls Tryz.prog 26 #[.pointer (some ⟨b, 0, none⟩), .int .u8 ci] w fun e w' => e = .returned .nilIface ∧ Tx B b (l ++ [c]) w' ∧ Below B w w' := by
  refine (writeByte_any B b (Lib.byteCells l) ci w h (by rw [Lib.byteCells_length]; omega) hB).mono ?_
  rintro e w' ⟨rfl, h1, h2, _⟩
  rw [cells_one l c ci hc] at h1
  exact ⟨rfl, .inr h1, h2⟩
theorem tx_str (B b : Nat) (l : List UInt8) (s : ByteArray) (w : World) (h : Tx B b l w) (hl : l.length ≤ 1000000000) (hs : s.size ≤ 1000000000) (hB : B ≤ w.heap.size) :
    Calls Tryz.prog 25 #[.pointer (some ⟨b, 0, none⟩), .string s] w fun e w' => e = .returned (.tuple #[.int .i64 s.size, .nilIface]) ∧ Tx B b (l ++ s.data.toList) w' ∧ Below B w w' := by
  refine (writeString_any B b (Lib.byteCells l) s w h (by rw [Lib.byteCells_length]; omega) hB).mono ?_
  rintro e w' ⟨rfl, h1, h2, _⟩
  rw [cells_app] at h1
  exact ⟨rfl, .inr h1, h2⟩
/-- String of one that nothing was written to -/
theorem tx_nil (b : Nat) (w : World) (h1 : w.cell? ⟨b, 1, none⟩ = some (.slice none 0 0)) :
    Calls Tryz.prog 27 #[.pointer (some ⟨b, 0, none⟩)] w fun e w' => e = .returned (.string ⟨#[]⟩) ∧ Below w.heap.size w w' := by
  have c1 : w.drew.cell? ⟨b, 1, none⟩ = some (.slice none 0 0) := h1
  have HD : Hid (Below w.heap.size w w.drew) := (Below.refl _ _).drew
  have mixed : Tryz.prog.follows .mixedOrders = true := by kernel_rfl
  have hSD : ∀ w, (Builtin.unsafeSliceData_ #[36] 92 #[.slice none 0 0]).run Tryz.prog w = .ok (.pointer none) w := fun w => by kernel_rfl
  have hUS : ∀ w, (Builtin.unsafeString_ #[92, 3] 9 #[.pointer none, .int .i64 0]).run Tryz.prog w = .ok (.string ⟨#[]⟩) w := fun w => by kernel_rfl
  go_enter Tryz.func27, Tryz.ntmps27
  go_wp2
  go_region_o
  all_goals (go_wp2; go_ret; exact ⟨rfl, HD.out⟩)
namespace Pl
/-- what spaced has written of the first k tokens -/
def spk (l : List (List UInt8)) (k : Nat) : List UInt8 := sp tg (l.take k)
theorem lst_last : ∀ (r : List (List UInt8)) (p : List UInt8), lst p r = (p :: r).getLastD p := by
  intro r
  induction r with
  | nil => intro p; rfl
  | cons x r ih => intro p; rw [lst, ih]; cases r <;> rfl
theorem spk_succ {l : List (List UInt8)} {k : Nat} {t : List UInt8} (h : l[k]? = some t) : spk l (k + 1) = spk l k ++ (if k = 0 then [] else bl (tg (l.getD (k - 1) []) t)) ++ t := by
  have hk := (List.getElem?_eq_some_iff.1 h).1
  unfold spk
  rw [List.take_add_one, h]
  show sp tg (l.take k ++ [t]) = _
  by_cases k0 : k = 0
  · subst k0; simp [sp, spt]
  · rw [if_neg k0]
    match e : l.take k, (by intro e; have := congrArg List.length e; rw [List.length_take, List.length_nil] at this; omega : l.take k ≠ []) with
    | p :: r, _ =>
      rw [sp_append]
      have hl : lst p r = l.getD (k - 1) [] := by
        rw [lst_last]
        have h1 : (p :: r).length = k := by rw [← e, List.length_take]; omega
        rw [List.getLastD_eq_getLast?, List.getLast?_eq_getElem?, h1, ← e, List.getElem?_take_of_lt (by omega)]
        rw [List.getD_eq_getElem?_getD, List.getElem?_eq_getElem (by omega)]
        rfl
      rw [hl]
      simp [sp, spt]
theorem spk_len {l : List (List UInt8)} {n : Nat} (h : ∀ t ∈ l, t.length ≤ n) (k : Nat) : (spk l k).length ≤ (n + 1) * l.length := by
  have := sp_len (tg := tg) (n := n) (l.take k) (fun t ht => h t (List.mem_of_mem_take ht))
  have h2 : (l.take k).length ≤ l.length := by rw [List.length_take]; omega
  have h3 : (n + 1) * (l.take k).length ≤ (n + 1) * l.length := Nat.mul_le_mul_left _ h2
  unfold spk
  omega
end Pl
set_option maxHeartbeats 8000000 in
/-- impl.spaced -/
theorem spaced_any (l : List (List UInt8)) (g cap : Nat) (w : World) (hg : g < w.heap.size) (hl : l.length ≤ 10000000) (ht : ∀ t ∈ l, t.length ≤ 30) (hc : ∀ (j : Nat) (t : List UInt8), l[j]? = some t → w.cell? ⟨g, j, none⟩ = some (.string (Pl.ba t))) (hne : Pl.sp Pl.tg l ≠ []) :
    Calls Tryz.prog 59 #[.slice (some ⟨g, 0, none⟩) l.length cap] w fun e w' => e = .returned (.string (Pl.ba (Pl.sp Pl.tg l))) ∧ Below w.heap.size w w' := by
  have HL : Hid (∀ k, (Pl.spk l k).length ≤ 310000000) := fun k => by have := Pl.spk_len ht k; omega
  have HS : Hid (∀ k t, l[k]? = some t → Pl.spk l (k + 1) = Pl.spk l k ++ (if k = 0 then [] else Pl.bl (Pl.tg (l.getD (k - 1) []) t)) ++ t) := fun k t => Pl.spk_succ
  have HG : Hid (∀ k, k < l.length → ∃ t, l[k]? = some t ∧ t.length ≤ 30) := fun k hk => ⟨l[k], List.getElem?_eq_getElem hk, ht _ (List.getElem_mem hk)⟩
  have HC : Hid (∀ w' (j : Nat) (t : List UInt8), Below w.heap.size w w' → l[j]? = some t → w'.cell? ⟨g, j, none⟩ = some (.string (Pl.ba t))) := fun w' j t h hj => (h.cell (p := ⟨g, j, none⟩) hg).trans (hc j t hj)
  have HP : Hid (∀ w' (k : Nat), Below w.heap.size w w' → 0 < k → k < l.length → w'.cell? ⟨g, k - 1, none⟩ = some (.string (Pl.ba (l.getD (k - 1) [])))) := fun w' k h h0 hk => by
    refine (h.cell (p := ⟨g, k - 1, none⟩) hg).trans (hc (k - 1) _ ?_)
    rw [List.getD_eq_getElem?_getD, List.getElem?_eq_getElem (by omega)]
    rfl
  have HE : Hid (Pl.spk l l.length = Pl.sp Pl.tg l) := by show _ = _; unfold Pl.spk; rw [List.take_length]
  have HNE := hideP hne
  have T0 := hideP (Tx.new w)
  have B0 : Hid (Below w.heap.size w (w.alloc (.cells #[.pointer none, .slice none 0 0] 56))) := (Below.refl _ _).alloc (Nat.le_refl _) _
  have HZ0 : Hid (Pl.spk l 0 = []) := rfl
  clear hc ht hne
  generalize hn : l.length = n at *
  clear hn
  go_enter Tryz.func59, Tryz.ntmps59
  go_wp2_with fail
  go_loopw [8] (fun iv wr => ∃ k : Nat, k ≤ n ∧ iv = .int .i64 k ∧ Hid (Tx w.heap.size w.heap.size (Pl.spk l k) wr) ∧ Hid (Below w.heap.size w wr)) (fun iv _ => n - (intOf iv).toNat)
  case atStart => exact ⟨0, Nat.zero_le _, rfl, by rw [HZ0.out]; exact T0, B0⟩
  case round =>
    obtain ⟨k, hk, rfl, hT, BB⟩ := hrel
    have hbs := BB.out.size
    have hlk := HL.out k
    by_cases hlt : k < n
    · obtain ⟨t, ht, htl⟩ := HG.out k hlt
      have cx := HC.out _ k t BB.out ht
      have S := hideP (HS.out k t ht)
      have KW : Hid (∀ (P : List UInt8) w', Tx w.heap.size w.heap.size P w' → P.length ≤ 1000000000 → w.heap.size ≤ w'.heap.size → Calls Tryz.prog 25 #[.pointer (some ⟨w.heap.size, 0, none⟩), .string (Pl.ba t)] w' fun e w2 => e = .returned (.tuple #[.int .i64 (Pl.ba t).size, .nilIface]) ∧ Tx w.heap.size w.heap.size (P ++ t) w2 ∧ Below w.heap.size w' w2) := fun P w' h1 h2 h3 => tx_str w.heap.size w.heap.size P (Pl.ba t) w' h1 h2 (by rw [Pl.ba_size]; omega) h3
      by_cases k0 : k = 0
      · have t0 : decide (0 < k) = false := by rw [decide_eq_false_iff_not]; omega
        have S2 := hideP (show Pl.spk l (k + 1) = Pl.spk l k ++ t by rw [S.out, if_pos k0, List.append_nil])
        clear S k0 HS HG HC HP HL ht
        generalize Pl.ba t = tt at *
        go_wp2_with fail
        refine (KW.out _ _ hT.out (by omega) hbs).mono ?_
        rintro e w2 ⟨rfl, h1, h2⟩
        have H1 : Hid (Tx w.heap.size w.heap.size (Pl.spk l (k + 1)) w2) := by rw [S2.out]; exact h1
        have H2 := hideP (BB.out.trans h2)
        clear h1 h2
        go_wp2_with fail
        go_roundw
        case rel => exact ⟨k + 1, by omega, by go_num, H1, H2⟩
        case measure => simp [intOf]; omega
      · have k1 : 0 < k := by omega
        have cp := HP.out _ k BB.out k1 hlt
        have S2 := hideP (show Pl.spk l (k + 1) = Pl.spk l k ++ Pl.bl (Pl.tg (l.getD (k - 1) []) t) ++ t by rw [S.out, if_neg k0])
        have KT : Hid (Calls Tryz.prog 72 #[.string (Pl.ba (l.getD (k - 1) [])), .string (Pl.ba t)] wr fun e w' => e = .returned (.bool (Pl.tg (l.getD (k - 1) []) t)) ∧ Below wr.heap.size wr w') := together_any (Pl.ba (l.getD (k - 1) [])) (Pl.ba t) wr
        clear S k0 HS HG HC HP HL ht
        generalize hq : l.getD (k - 1) [] = q at *
        clear hq
        generalize hb : Pl.tg q t = b at *
        clear hb
        generalize Pl.ba q = qq at *
        have HTT : Hid (Pl.ba t = Pl.ba t) := rfl
        generalize Pl.ba t = tt at *
        cases b
        · go_wp2_with fail
          refine KT.out.mono ?_
          rintro e w1 ⟨rfl, hb1⟩
          have H1 := hideP hb1
          have X1 := hideP (hT.out.keep hb1)
          have z1 : w.heap.size ≤ w1.heap.size := Nat.le_trans hbs hb1.size
          clear hb1
          go_wp2_with fail
          refine (tx_byte w.heap.size w.heap.size _ 32 32 rfl _ X1.out (by omega) z1).mono ?_
          rintro e w2 ⟨rfl, h1, h2⟩
          have X2 := hideP h1
          have B2 := hideP (BB.out.trans ((H1.out.mono hbs).trans h2))
          have z2 := B2.out.size
          clear h1 h2
          go_wp2_with fail
          refine (KW.out _ _ X2.out (by rw [List.length_append]; simp; omega) z2).mono ?_
          rintro e w3 ⟨rfl, h1, h2⟩
          have X3 : Hid (Tx w.heap.size w.heap.size (Pl.spk l (k + 1)) w3) := by rw [S2.out]; exact h1
          have B3 := hideP (B2.out.trans h2)
          clear h1 h2
          go_wp2_with fail
          go_roundw
          case rel => exact ⟨k + 1, by omega, by go_num, X3, B3⟩
          case measure => simp [intOf]; omega
        · go_wp2_with fail
          refine KT.out.mono ?_
          rintro e w1 ⟨rfl, hb1⟩
          have H1 := hideP hb1
          have X1 := hideP (hT.out.keep hb1)
          have z1 : w.heap.size ≤ w1.heap.size := Nat.le_trans hbs hb1.size
          have B1 := hideP (BB.out.trans (hb1.mono hbs))
          clear hb1
          go_wp2_with fail
          refine (KW.out _ _ X1.out (by omega) z1).mono ?_
          rintro e w3 ⟨rfl, h1, h2⟩
          have X3 : Hid (Tx w.heap.size w.heap.size (Pl.spk l (k + 1)) w3) := by
            rw [S2.out, show Pl.bl true = [] from rfl, List.append_nil]
            exact h1
          have B3 := hideP (B1.out.trans h2)
          clear h1 h2
          go_wp2_with fail
          go_roundw
          case rel => exact ⟨k + 1, by omega, by go_num, X3, B3⟩
          case measure => simp [intOf]; omega
    · obtain rfl : k = n := by omega
      rw [HE.out] at hT
      have K : Hid (Calls Tryz.prog 27 #[.pointer (some ⟨w.heap.size, 0, none⟩)] wr fun e w' => e = .returned (.string (Pl.ba (Pl.sp Pl.tg l))) ∧ Below w.heap.size wr w') := string_any w.heap.size w.heap.size (Pl.sp Pl.tg l) wr hT.out HNE.out
      clear HS HG HC HP HL
      go_wp2_with (go_at_call 27; refine K.out.mono ?_; rintro e w' ⟨rfl, hb⟩)
      go_ret
      exact ⟨rfl, BB.out.trans hb⟩
end Go.Proofs.YtljkolffjjhgeaaGreatDoor
