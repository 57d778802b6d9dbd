import Derived.Test.YthhfpcdbgndioaaGreatDoorFnt
import Derived.Test.YthhfpcdbgndioaaGreatDoorSok
import Derived.Lib.Join
import Derived.Laws.IdiomStrings
import Derived.Lib.FrozenHead2
import Derived.Lib.OthersKept
import Derived.Lib.BufferKept
import Derived.Lib.MakeNoZero
import Derived.Shelf.Strings.BuilderF
import Derived.Shelf.RegionOpenPlain
import Derived.Test.YthhfpcdbgndioaaGreatDoorMng
namespace Go.Proofs.YthhfpcdbgndioaaGreatDoor
open Go.RowKit
set_option linter.unusedVariables false
theorem Tryz.info5 : (Tryz.prog.info? 5).map (fun i => (i.zero, i.size, i.bytes)) = some (some (.int .u8 0), 1, 1) := by kernel_rfl
theorem und36 : Tryz.prog.underlying 22 = some (.slice 5) := by kernel_rfl
theorem owns8_keep {base n : Nat} {w w' : World} {v : Value} {xs : List Value} (h : w.ownsRow base 5 1 v n xs) (hb : Below w.heap.size w w') : w'.ownsRow base 5 1 v n xs := by
  refine ⟨h.1, ?_⟩
  rcases h.2 with h | ⟨g, cap, cur, e, h1, h2, h3⟩
  · exact .inl h
  · exact .inr ⟨g, cap, cur, e, h1, (hb.block g (Array.getElem?_eq_some_iff.1 h2).1).trans h2, h3⟩
theorem owns8_form {base n : Nat} {w : World} {v : Value} {xs : List Value} (h : w.ownsRow base 5 1 v n xs) : ∃ xo yo, v = .slice xo n yo := by
  rcases h.2 with ⟨e, h0⟩ | ⟨g, cp, cur, e, _⟩
  · exact ⟨none, 0, by rw [h0]; exact e⟩
  · exact ⟨_, _, e⟩
/-- append of bytes -/
theorem wpList_append8 {base : Nat} (w : World) {ops : Array Oper} {rest : List Oper} {o : Oper} {a : Act} {Q : Exit → Act → World → Prop} (hg : o.guard = none) (s x : Operand)
    (hop : o.op = Op.call { callee := Callee.builtin Builtin.append, args := #[s, x], argTypes := #[22, 22] }) (v u : Value) (hs : a.eval s = v) (hx : a.eval x = u) (n : Nat) (bs ys : List UInt8) (b cap : Nat) (hu : u = .slice (some ⟨b, 0, none⟩) ys.length cap)
    (hown : w.ownsRow base 5 1 v n (Lib.byteCells bs)) (hc : ∀ j y, (Lib.byteCells ys)[j]? = some y → w.cell? ⟨b, j, none⟩ = some y) (hy : 0 < ys.length) (hbd : n + ys.length ≤ 16777216) (hbase : base ≤ w.heap.size)
    (hK : ∀ v' w', w'.ownsRow base 5 1 v' (n + ys.length) (Lib.byteCells (bs ++ ys)) → w.grownBy w' v.ownBlock → wpList Tryz.prog ops Q rest (a.put o.dst v') w') : wpList Tryz.prog ops Q (o :: rest) a w := by
  obtain ⟨i0, hi, hz0, hz1, hz2⟩ := info_parts Tryz.info5
  subst hu
  obtain ⟨v', w', hr, ho, hg', _⟩ := run_append_own (P := Tryz.prog) w base 22 o.type 5 i0 (.int .u8 0) 1 1 und36 hi hz0 hz1 hz2 rfl (by decide) v n _ hown ⟨b, 0, none⟩ ys.length cap (Lib.byteCells ys) (by simp [Lib.byteCells])
    (by
      intro j y hj
      rw [Addr.add_lit, Nat.zero_add]
      exact hc j y hj)
    (by
      intro y hy
      unfold Lib.byteCells at hy
      obtain ⟨z, _, rfl⟩ := List.mem_map.1 hy
      rfl) (by unfold maxLen; omega) (by omega) hbase
  refine wpList_plain hg fun K hK' => ?_
  unfold Oper.wp
  simp [execOp, hop, resolve, invoke, builtin, hs, hx, hr, Result.andThen]
  exact hK' _ _ (hK v' w' (by simpa [Lib.byteCells] using ho) hg')
theorem conv8 (sx : ByteArray) (w : World) : (convert 9 22 (.string sx)).run Tryz.prog w = .ok (.slice (some ⟨w.heap.size, 0, none⟩) sx.size (grownCap w sx.size 0 5)) (w.drew.alloc (.cells (bytesRow sx (grownCap w sx.size 0 5)) 5 ((bytesRow sx (grownCap w sx.size 0 5)).size, (bytesRow sx (grownCap w sx.size 0 5)).size + 1))) :=
  run_bytes_of_string w 9 22 5 sx (by kernel_rfl) (by kernel_rfl) (by kernel_rfl)
theorem conv8_cells (sx : ByteArray) (w : World) : ∀ j y, (Lib.byteCells sx.data.toList)[j]? = some y → (w.drew.alloc (.cells (bytesRow sx (grownCap w sx.size 0 5)) 5 ((bytesRow sx (grownCap w sx.size 0 5)).size, (bytesRow sx (grownCap w sx.size 0 5)).size + 1))).cell? ⟨w.heap.size, j, none⟩ = some y := by
  intro j y hj
  have h0 : (w.drew.alloc (.cells (bytesRow sx (grownCap w sx.size 0 5)) 5 ((bytesRow sx (grownCap w sx.size 0 5)).size, (bytesRow sx (grownCap w sx.size 0 5)).size + 1))).heap[w.heap.size]? = some (.cells (bytesRow sx (grownCap w sx.size 0 5)) 5 ((bytesRow sx (grownCap w sx.size 0 5)).size, (bytesRow sx (grownCap w sx.size 0 5)).size + 1)) := heap_alloc_new w.drew _
  rw [cell_of_row _ _ j _ 5 _ h0]
  unfold Lib.byteCells at hj
  unfold bytesRow
  rw [List.getElem?_map] at hj
  obtain ⟨z, hz, rfl⟩ := Option.map_eq_some_iff.1 hj
  have hlt := (List.getElem?_eq_some_iff.1 hz).1
  rw [Array.getElem?_append_left (by simpa using hlt), Array.getElem?_map]
  have : sx.data[j]? = some z := by simpa using hz
  rw [this]
  rfl
theorem conv8_below (sx : ByteArray) (w : World) : Below w.heap.size w (w.drew.alloc (.cells (bytesRow sx (grownCap w sx.size 0 5)) 5 ((bytesRow sx (grownCap w sx.size 0 5)).size, (bytesRow sx (grownCap w sx.size 0 5)).size + 1))) := (Below.refl _ _).drew.alloc (Nat.le_refl _) _
set_option maxRecDepth 100000 in
theorem conv_row {base : Nat} (bs : List UInt8) (v : Value) (w : World) (h : w.ownsRow base 5 1 v bs.length (Lib.byteCells bs)) : (convert 22 9 v).run Tryz.prog w = .ok (.string ⟨bs.toArray⟩) w := by
  rcases hh : h.2 with ⟨e, h0⟩ | ⟨g, cp, cur, e, hB, hg, h1, h2, h3, h4⟩
  · obtain rfl : bs = [] := List.eq_nil_of_length_eq_zero h0
    rw [e]
    exact run_convert_bytes_nil w 22 5 (by kernel_rfl) (by kernel_rfl) 0 0 9 (by kernel_rfl)
  · rw [e]
    have := run_convert_bytes_arg (P := Tryz.prog) w 22 5 (by kernel_rfl) (by kernel_rfl) g 0 bs.length cp (bs.map (fun b => (b.toNat : Int))) (by simp) (fun i hi => by
      rw [Nat.zero_add, cell_of_row w g i cur 5 (0, 0) hg]
      have e2 : (cur.toList.take (bs.length * 1))[i]? = (Lib.byteCells bs)[i]? := by rw [h4]
      rw [List.getElem?_take_of_lt (by omega)] at e2
      rw [← Array.getElem?_toList, e2]
      simp [Lib.byteCells, List.getD, hi]) 9 (by kernel_rfl)
    have e3 : strOfNums (bs.map (fun b => (b.toNat : Int))) = ⟨bs.toArray⟩ := by
      unfold strOfNums
      rw [List.map_map]
      have e4 : bs.map ((fun n : Int => UInt8.ofNat n.toNat) ∘ fun b : UInt8 => (b.toNat : Int)) = bs := by
        have : ((fun n : Int => UInt8.ofNat n.toNat) ∘ fun b : UInt8 => (b.toNat : Int)) = id := by
          funext b
          simp
        rw [this, List.map_id]
      rw [e4]
    rw [this, e3]
namespace Pl
def jt (l : List Int) (k : Nat) : List UInt8 := sp tg ((l.take k).map nt)
theorem sp_snoc (l : List Int) (x : Int) (h : l ≠ []) : sp tg ((l ++ [x]).map nt) = sp tg (l.map nt) ++ [32] ++ nt x := by
  match l, h with
  | y :: r, _ =>
    rw [List.map_append, List.map_cons, List.map_cons, List.map_nil, sp_append]
    have : tg (lst (nt y) (r.map nt)) (nt x) = false := by
      unfold tg
      rw [lst_map nt (fun n => (nt_fine n).1) r y, (nt_fine x).2]
      rfl
    rw [this]
    simp [sp, spt, bl]
theorem jt_succ {l : List Int} {k : Nat} {x : Int} (h : l[k]? = some x) : jt l (k + 1) = jt l k ++ (if k = 0 then [] else [32]) ++ nt x := by
  unfold jt
  have hk := (List.getElem?_eq_some_iff.1 h).1
  rw [List.take_add_one, h]
  by_cases k0 : k = 0
  · subst k0
    simp [sp, spt]
  · rw [if_neg k0]
    exact sp_snoc (l.take k) x (by intro e; have := congrArg List.length e; rw [List.length_take, List.length_nil] at this; omega)
theorem jt_len {l : List Int} (h : ∀ x ∈ l, -3000000000 ≤ x ∧ x ≤ 3000000000) (k : Nat) (hl : l.length ≤ 1000) : (jt l k).length ≤ 22000 := by
  have := sp_len (tg := tg) (n := 21) ((l.take k).map nt) (by
    intro t ht
    obtain ⟨x, hx, rfl⟩ := List.mem_map.1 ht
    have := h x (List.mem_of_mem_take hx)
    exact nt_len x (by omega) (by omega))
  have h2 : ((l.take k).map nt).length ≤ 1000 := by rw [List.length_map, List.length_take]; omega
  unfold jt
  omega
end Pl
set_option maxRecDepth 100000
set_option maxHeartbeats 4000000 in
/-- spec.l3Text at numbers -/
theorem l3Text_nums (b o cap L i : Nat) (s : Pl.Sv) (an : Option Addr) (cn : Nat) (w : World) (hi : i < L) (hL : L ≤ 1048576) (hk : s.k = 1) (hb : b < w.heap.size) (hst : Stp w.heap.size w b (o + i * 7) s an cn) (hv : ∀ x ∈ s.nums, -3000000000 ≤ x ∧ x ≤ 3000000000) (hl : s.nums.length ≤ 1000) :
    Calls Tryz.prog 23 #[.slice (some ⟨b, o, none⟩) L cap, .int .i64 i] w fun e w' => e = .returned (.tuple #[.string (Pl.ba (Pl.jt s.nums s.nums.length)), .int .i64 0]) ∧ Below w.heap.size w w' := by
  obtain ⟨c0, c1, c2, c3, c4, c5, c6, crd⟩ := hst
  rw [hk] at c0
  have HRd := hideP crd
  clear crd
  generalize Pl.ba s.nm = nm at *
  generalize Pl.ba s.fn.nm = fnm at *
  generalize s.fn.k = fk at *
  generalize s.fn.a = fa at *
  generalize s.fn.b = fb at *
  have HV := hideP hv
  have HLEN : Hid (∀ k, (Pl.jt s.nums k).length ≤ 22000) := fun k => Pl.jt_len hv k hl
  have HJ : Hid (∀ k x, s.nums[k]? = some x → Pl.jt s.nums (k + 1) = Pl.jt s.nums k ++ (if k = 0 then [] else [32]) ++ Pl.nt x) := fun k x => Pl.jt_succ
  have HI : Hid (∀ k, k < s.nums.length → ∃ x, s.nums[k]? = some x ∧ -3000000000 ≤ x ∧ x ≤ 3000000000) := fun k hk => ⟨s.nums[k], List.getElem?_eq_getElem hk, hv _ (List.getElem_mem hk)⟩
  clear hv hk
  have HN0 : Hid (∀ k, k < s.nums.length → s.nums ≠ []) := fun k hk e => by rw [e] at hk; cases hk
  generalize hn : s.nums.length = n at *
  obtain ⟨W0, hW0⟩ : ∃ W0, w.alloc (.cells #[.int .i64 1, .slice an n cn, .string nm, .int .i64 fk, .int .i64 fa, .int .i64 fb, .string fnm] 40) = W0 := ⟨_, rfl⟩
  have HS0 : Hid (W0.heap.size = w.heap.size + 1) := by show _ = _; rw [← hW0]; simp
  have HB0 : Hid (Below w.heap.size w W0) := by show Below _ _ _; rw [← hW0]; exact (Below.refl _ _).alloc (Nat.le_refl _) _
  have HBX : Hid (∀ wr, Below (w.heap.size + 1) W0 wr → wr.cell? ⟨w.heap.size, 1, none⟩ = some (.slice an n cn)) := fun wr h => (h.cell (p := ⟨w.heap.size, 1, none⟩) (Nat.lt_succ_self _)).trans (by rw [← hW0]; simp [go_sem])
  have HNC : Hid (∀ k x, s.nums[k]? = some x → ∃ nb no, an = some ⟨nb, no, none⟩ ∧ ∀ wr, Below (w.heap.size + 1) W0 wr → wr.cell? ⟨nb, no + k, none⟩ = some (.int .i64 x)) := fun k x hx => by
    obtain ⟨nb, no, h1, h2, h3⟩ := HRd.out.resolve_left (HN0.out k (by rw [← hn]; exact (List.getElem?_eq_some_iff.1 hx).1))
    exact ⟨nb, no, h2, fun wr h => (h.cell (p := ⟨nb, no + k, none⟩) (Nat.lt_succ_of_lt h1)).trans ((HB0.out.cell (p := ⟨nb, no + k, none⟩) h1).trans (h3 k x hx))⟩
  have OE : Hid ((W0.alloc (.cells #[] 5)).ownsRow (w.heap.size + 1) 5 1 (.slice (some ⟨w.heap.size + 1, 0, none⟩) 0 0) 0 (Lib.byteCells [])) := by
    have := World.ownsRow_lit (base := W0.heap.size) (e := 5) (size := 1) W0 #[] 0 (Nat.le_refl _) (by unfold maxLen; omega) rfl
    rw [HS0.out] at this
    exact this
  have BE : Hid (Below (w.heap.size + 1) W0 (W0.alloc (.cells #[] 5))) := (Below.refl _ _).alloc (by rw [HS0.out]; exact Nat.le_refl _) _
  have HN := hideP hn
  have HW0 := hideP hW0
  clear hn HRd HN0 hW0
  go_enter Tryz.func23, Tryz.ntmps23
  go_wp2_with fail
  rw [HW0.out]
  go_loopw [7, 8] (fun ov iv wr => ∃ k : Nat, k ≤ n ∧ iv = .int .i64 k ∧ Hid (wr.ownsRow (w.heap.size + 1) 5 1 ov (Pl.jt s.nums k).length (Lib.byteCells (Pl.jt s.nums k))) ∧ Hid (Below (w.heap.size + 1) W0 wr)) (fun _ iv _ => n - (intOf iv).toNat)
  case atStart => exact ⟨0, Nat.zero_le _, rfl, OE, BE⟩
  case round =>
    obtain ⟨k, hk, rfl, hO, BB⟩ := hrel
    obtain ⟨xo, yo, eo⟩ := owns8_form hO.out
    subst eo
    by_cases hlt : k < n
    · obtain ⟨x, hx, hx1, hx2⟩ := HI.out k hlt
      obtain ⟨nb, no, rfl, hnc⟩ := HNC.out k x hx
      have HX := hideP hnc
      have J := hideP (HJ.out k x hx)
      have hlk := HLEN.out k
      obtain ⟨sx, hsx⟩ : ∃ sx : ByteArray, (⟨(Lib.decDigits x.natAbs).toArray⟩ : ByteArray) = sx := ⟨_, rfl⟩
      have hd1 : (Lib.decDigits x.natAbs).length ≤ 20 := by rw [Lib.decDigits_length]; exact Lib.nDigits_le20 _ (by omega)
      have hd0 : 0 < (Lib.decDigits x.natAbs).length := List.length_pos_iff.2 (Pl.dig_ne _)
      have KD : Hid (∀ w, Calls Tryz.prog 42 #[.int .i64 (x.natAbs : Int)] w fun e w' => e = .returned (.string sx) ∧ Below w.heap.size w w') := fun w => by
        have := l1Dec_any (x.natAbs : Int) w (by omega) (by omega)
        rw [Lib.itoa_nonneg, hsx] at this
        exact this
      have ES : sx.size = (Lib.decDigits x.natAbs).length := by rw [← hsx]; show (Lib.decDigits x.natAbs).toArray.size = _; simp
      have ED : sx.data.toList = Lib.decDigits x.natAbs := by rw [← hsx]
      have CV8 : Hid (∀ w3 : World, ∀ j y, (Lib.byteCells (Lib.decDigits x.natAbs))[j]? = some y → (w3.drew.alloc (.cells (bytesRow sx (grownCap w3 sx.size 0 5)) 5 ((bytesRow sx (grownCap w3 sx.size 0 5)).size, (bytesRow sx (grownCap w3 sx.size 0 5)).size + 1))).cell? ⟨w3.heap.size, j, none⟩ = some y) := fun w3 => by
        have := conv8_cells sx w3
        rw [ED] at this
        exact this
      have EL : Hid (∀ p c : Nat, (Value.slice (some ⟨p, 0, none⟩) sx.size c) = .slice (some ⟨p, 0, none⟩) (Lib.decDigits x.natAbs).length c) := fun p c => by rw [ES]
      have HD0 := hideP hd0
      have HNT : Hid (Pl.nt x = if x < 0 then 95 :: Lib.decDigits x.natAbs else Lib.decDigits x.natAbs) := by
        show _ = _
        unfold Pl.nt
        split
        · rfl
        · congr 1; omega
      have hbx := HBX.out _ BB.out
      have hcx := HX.out _ BB.out
      have HBXX := HBX
      clear hsx ES ED hnc HNC HI HJ HLEN HV hx OE BE hd0
      clear c0 c1 c2 c3 c4 c5 c6 hi hL hb
      generalize Lib.decDigits x.natAbs = D at *
      generalize hP : Pl.jt s.nums k = P at *
      by_cases k0 : k = 0
      · by_cases hneg : x < 0
        · skip
          have JN : Hid (Pl.jt s.nums (k + 1) = P ++ 95 :: D) := by
            show _ = _
            rw [J.out, HNT.out]
            simp [hneg, k0]
          have HLN : Hid ((P ++ 95 :: D).length = P.length + 1 + D.length) := by show _ = _; simp; omega
          have HQ1 : Hid (P.length + 1 ≤ 16777216) := by show _ ≤ _; omega
          have HQ2 : Hid (P.length + 1 + 1 ≤ 16777216) := by show _ ≤ _; omega
          have HQ3 : Hid (P.length + 1 + D.length ≤ 16777216) := by show _ ≤ _; omega
          have KE : Hid (∀ w, Calls Tryz.prog 42 #[.int .i64 (-x)] w fun e w' => e = .returned (.string sx) ∧ Below w.heap.size w w') := fun w => by have h := KD.out w; rwa [show (x.natAbs : Int) = -x by omega] at h
          have t0 : decide (0 < k) = false := by rw [decide_eq_false_iff_not]; omega
          clear J HNT hlk hd1 k0 KD
          have AL2 : Hid (Below wr.heap.size wr (wr.alloc (.cells #[.int .u8 95] 5))) := (Below.refl _ _).alloc (Nat.le_refl _) _
          have OA2 := hideP (owns8_keep hO.out AL2.out)
          have BA2 := hideP (BB.out.trans (AL2.out.mono (by have := BB.out.size; have := HS0.out; omega)))
          have hsA2 : w.heap.size + 1 ≤ (wr.alloc (.cells #[.int .u8 95] 5)).heap.size := by have := BA2.out.size; have := HS0.out; omega
          have CA2 : Hid (∀ j y, (Lib.byteCells [95])[j]? = some y → (wr.alloc (.cells #[.int .u8 95] 5)).cell? ⟨wr.heap.size, j, none⟩ = some y) := fun j y hj => by
            match j, hj with
            | 0, hj =>
              simp [Lib.byteCells] at hj
              subst hj
              simp [go_sem]
            | j + 1, hj => simp [Lib.byteCells] at hj
          go_wp2_with (at_builtin; refine wpList_append8 (base := w.heap.size + 1) (wr.alloc (.cells #[.int .u8 95] 5)) rfl (.tmp 44) (.tmp 45) rfl (.slice xo (P.length) yo) (.slice (some ⟨wr.heap.size, 0, none⟩) 1 1) rfl rfl (P.length) (P) [95] wr.heap.size 1 rfl OA2.out CA2.out (by decide) HQ1.out hsA2 ?_)
          intro v2 w2a ho2 hg2
          have B2 : Hid (Below (w.heap.size + 1) W0 w2a) := BA2.out.grown hg2 hsA2 (fun k hk => (OA2.out.lt k hk).1)
          have O2 : Hid (w2a.ownsRow (w.heap.size + 1) 5 1 v2 (P.length + 1) (Lib.byteCells (P ++ [95]))) := ho2
          obtain ⟨x2, y2, e2⟩ := owns8_form O2.out
          subst e2
          have hbx2 := HBXX.out _ B2.out
          have hcx2 := HX.out _ B2.out
          clear ho2 hg2 OA2 AL2 CA2 hsA2 BA2
          go_wp2_with fail
          refine (KE.out _).mono ?_
          rintro e w3 ⟨rfl, hb3⟩
          have B3 := hideP (B2.out.trans (hb3.mono (by have := B2.out.size; have := HS0.out; omega)))
          have O3 := hideP (owns8_keep O2.out hb3)
          have kc := conv8 sx w3
          obtain ⟨cp, ecp⟩ : ∃ cp, grownCap w3 sx.size 0 5 = cp := ⟨_, rfl⟩
          have CC := hideP (CV8.out w3)
          have BC := hideP (conv8_below sx w3)
          rw [ecp] at kc CC BC
          generalize (w3.drew.alloc (.cells (bytesRow sx cp) 5 ((bytesRow sx cp).size, (bytesRow sx cp).size + 1))) = w4 at kc CC BC
          have O4 := hideP (owns8_keep O3.out BC.out)
          have B4 := hideP (B3.out.trans (BC.out.mono (by have := B3.out.size; have := HS0.out; omega)))
          have hs4 : w.heap.size + 1 ≤ w4.heap.size := by have := B4.out.size; have := HS0.out; omega
          clear hb3 ecp
          go_wp2_with (at_builtin; refine wpList_append8 (base := w.heap.size + 1) w4 rfl (.tmp 47) (.tmp 55) rfl (.slice x2 (P.length + 1) y2) (.slice (some ⟨w3.heap.size, 0, none⟩) sx.size cp) rfl rfl (P.length + 1) (P ++ [95]) D w3.heap.size cp (EL.out _ _) O4.out CC.out HD0.out HQ3.out hs4 ?_)
          intro v' w5 ho5 hg5
          have B5 : Hid (Below (w.heap.size + 1) W0 w5) := B4.out.grown hg5 hs4 (fun k hk => (O4.out.lt k hk).1)
          have O5 : Hid (w5.ownsRow (w.heap.size + 1) 5 1 v' (Pl.jt s.nums (k + 1)).length (Lib.byteCells (Pl.jt s.nums (k + 1)))) := by
            show World.ownsRow _ _ _ _ _ _ _
            rw [JN.out, HLN.out]
            exact ho5
          clear ho5 hg5 kc
          go_wp2_with fail
          go_roundw
          case rel => exact ⟨k + 1, by omega, by go_num, O5, B5⟩
          case measure => simp [intOf]; omega
        · skip
          have JN : Hid (Pl.jt s.nums (k + 1) = P ++ D) := by
            show _ = _
            rw [J.out, HNT.out]
            simp [hneg, k0]
          have HLN : Hid ((P ++ D).length = P.length + D.length) := by show _ = _; simp
          have HQ1 : Hid (P.length + 1 ≤ 16777216) := by show _ ≤ _; omega
          have HQ2 : Hid (P.length + 1 + 1 ≤ 16777216) := by show _ ≤ _; omega
          have HQ3 : Hid (P.length + D.length ≤ 16777216) := by show _ ≤ _; omega
          have KE : Hid (∀ w, Calls Tryz.prog 42 #[.int .i64 x] w fun e w' => e = .returned (.string sx) ∧ Below w.heap.size w w') := fun w => by have h := KD.out w; rwa [show (x.natAbs : Int) = x by omega] at h
          have hge : ¬ (x < 0) := hneg
          have t0 : decide (0 < k) = false := by rw [decide_eq_false_iff_not]; omega
          clear J HNT hlk hd1 k0 KD
          go_wp2_with fail
          refine (KE.out _).mono ?_
          rintro e w3 ⟨rfl, hb3⟩
          have B3 := hideP (BB.out.trans (hb3.mono (by have := BB.out.size; have := HS0.out; omega)))
          have O3 := hideP (owns8_keep hO.out hb3)
          have kc := conv8 sx w3
          obtain ⟨cp, ecp⟩ : ∃ cp, grownCap w3 sx.size 0 5 = cp := ⟨_, rfl⟩
          have CC := hideP (CV8.out w3)
          have BC := hideP (conv8_below sx w3)
          rw [ecp] at kc CC BC
          generalize (w3.drew.alloc (.cells (bytesRow sx cp) 5 ((bytesRow sx cp).size, (bytesRow sx cp).size + 1))) = w4 at kc CC BC
          have O4 := hideP (owns8_keep O3.out BC.out)
          have B4 := hideP (B3.out.trans (BC.out.mono (by have := B3.out.size; have := HS0.out; omega)))
          have hs4 : w.heap.size + 1 ≤ w4.heap.size := by have := B4.out.size; have := HS0.out; omega
          clear hb3 ecp
          go_wp2_with (at_builtin; refine wpList_append8 (base := w.heap.size + 1) w4 rfl (.tmp 57) (.tmp 64) rfl (.slice xo (P.length) yo) (.slice (some ⟨w3.heap.size, 0, none⟩) sx.size cp) rfl rfl (P.length) (P) D w3.heap.size cp (EL.out _ _) O4.out CC.out HD0.out HQ3.out hs4 ?_)
          intro v' w5 ho5 hg5
          have B5 : Hid (Below (w.heap.size + 1) W0 w5) := B4.out.grown hg5 hs4 (fun k hk => (O4.out.lt k hk).1)
          have O5 : Hid (w5.ownsRow (w.heap.size + 1) 5 1 v' (Pl.jt s.nums (k + 1)).length (Lib.byteCells (Pl.jt s.nums (k + 1)))) := by
            show World.ownsRow _ _ _ _ _ _ _
            rw [JN.out, HLN.out]
            exact ho5
          clear ho5 hg5 kc
          go_wp2_with fail
          go_roundw
          case rel => exact ⟨k + 1, by omega, by go_num, O5, B5⟩
          case measure => simp [intOf]; omega
      · by_cases hneg : x < 0
        · skip
          have JN : Hid (Pl.jt s.nums (k + 1) = P ++ 32 :: 95 :: D) := by
            show _ = _
            rw [J.out, HNT.out]
            simp [hneg, k0]
          have HLN : Hid ((P ++ 32 :: 95 :: D).length = P.length + 1 + 1 + D.length) := by show _ = _; simp; omega
          have HQ1 : Hid (P.length + 1 ≤ 16777216) := by show _ ≤ _; omega
          have HQ2 : Hid (P.length + 1 + 1 ≤ 16777216) := by show _ ≤ _; omega
          have HQ3 : Hid (P.length + 1 + 1 + D.length ≤ 16777216) := by show _ ≤ _; omega
          have KE : Hid (∀ w, Calls Tryz.prog 42 #[.int .i64 (-x)] w fun e w' => e = .returned (.string sx) ∧ Below w.heap.size w w') := fun w => by have h := KD.out w; rwa [show (x.natAbs : Int) = -x by omega] at h
          have k1 : 0 < k := by omega
          clear J HNT hlk hd1 k0 KD
          have AL2 : Hid (Below wr.heap.size wr (wr.alloc (.cells #[.int .u8 32] 5))) := (Below.refl _ _).alloc (Nat.le_refl _) _
          have OA2 := hideP (owns8_keep hO.out AL2.out)
          have BA2 := hideP (BB.out.trans (AL2.out.mono (by have := BB.out.size; have := HS0.out; omega)))
          have hsA2 : w.heap.size + 1 ≤ (wr.alloc (.cells #[.int .u8 32] 5)).heap.size := by have := BA2.out.size; have := HS0.out; omega
          have CA2 : Hid (∀ j y, (Lib.byteCells [32])[j]? = some y → (wr.alloc (.cells #[.int .u8 32] 5)).cell? ⟨wr.heap.size, j, none⟩ = some y) := fun j y hj => by
            match j, hj with
            | 0, hj =>
              simp [Lib.byteCells] at hj
              subst hj
              simp [go_sem]
            | j + 1, hj => simp [Lib.byteCells] at hj
          go_wp2_with (at_builtin; refine wpList_append8 (base := w.heap.size + 1) (wr.alloc (.cells #[.int .u8 32] 5)) rfl (.tmp 35) (.tmp 36) rfl (.slice xo (P.length) yo) (.slice (some ⟨wr.heap.size, 0, none⟩) 1 1) rfl rfl (P.length) (P) [32] wr.heap.size 1 rfl OA2.out CA2.out (by decide) HQ1.out hsA2 ?_)
          intro v2 w2a ho2 hg2
          have B2 : Hid (Below (w.heap.size + 1) W0 w2a) := BA2.out.grown hg2 hsA2 (fun k hk => (OA2.out.lt k hk).1)
          have O2 : Hid (w2a.ownsRow (w.heap.size + 1) 5 1 v2 (P.length + 1) (Lib.byteCells (P ++ [32]))) := ho2
          obtain ⟨x2, y2, e2⟩ := owns8_form O2.out
          subst e2
          have hbx2 := HBXX.out _ B2.out
          have hcx2 := HX.out _ B2.out
          clear ho2 hg2 OA2 AL2 CA2 hsA2 BA2
          have AL3 : Hid (Below w2a.heap.size w2a (w2a.alloc (.cells #[.int .u8 95] 5))) := (Below.refl _ _).alloc (Nat.le_refl _) _
          have OA3 := hideP (owns8_keep O2.out AL3.out)
          have BA3 := hideP (B2.out.trans (AL3.out.mono (by have := B2.out.size; have := HS0.out; omega)))
          have hsA3 : w.heap.size + 1 ≤ (w2a.alloc (.cells #[.int .u8 95] 5)).heap.size := by have := BA3.out.size; have := HS0.out; omega
          have CA3 : Hid (∀ j y, (Lib.byteCells [95])[j]? = some y → (w2a.alloc (.cells #[.int .u8 95] 5)).cell? ⟨w2a.heap.size, j, none⟩ = some y) := fun j y hj => by
            match j, hj with
            | 0, hj =>
              simp [Lib.byteCells] at hj
              subst hj
              simp [go_sem]
            | j + 1, hj => simp [Lib.byteCells] at hj
          go_wp2_with (at_builtin; refine wpList_append8 (base := w.heap.size + 1) (w2a.alloc (.cells #[.int .u8 95] 5)) rfl (.tmp 44) (.tmp 45) rfl (.slice x2 (P.length + 1) y2) (.slice (some ⟨w2a.heap.size, 0, none⟩) 1 1) rfl rfl (P.length + 1) (P ++ [32]) [95] w2a.heap.size 1 rfl OA3.out CA3.out (by decide) HQ2.out hsA3 ?_)
          intro v3 w3a ho3 hg3
          have B3 : Hid (Below (w.heap.size + 1) W0 w3a) := BA3.out.grown hg3 hsA3 (fun k hk => (OA3.out.lt k hk).1)
          have O3 : Hid (w3a.ownsRow (w.heap.size + 1) 5 1 v3 (P.length + 1 + 1) (Lib.byteCells (P ++ [32, 95]))) := ho3
          obtain ⟨x3, y3, e3⟩ := owns8_form O3.out
          subst e3
          have hbx3 := HBXX.out _ B3.out
          have hcx3 := HX.out _ B3.out
          clear ho3 hg3 OA3 AL3 CA3 hsA3 BA3
          go_wp2_with fail
          refine (KE.out _).mono ?_
          rintro e w3 ⟨rfl, hb3⟩
          have B3 := hideP (B3.out.trans (hb3.mono (by have := B3.out.size; have := HS0.out; omega)))
          have O3 := hideP (owns8_keep O3.out hb3)
          have kc := conv8 sx w3
          obtain ⟨cp, ecp⟩ : ∃ cp, grownCap w3 sx.size 0 5 = cp := ⟨_, rfl⟩
          have CC := hideP (CV8.out w3)
          have BC := hideP (conv8_below sx w3)
          rw [ecp] at kc CC BC
          generalize (w3.drew.alloc (.cells (bytesRow sx cp) 5 ((bytesRow sx cp).size, (bytesRow sx cp).size + 1))) = w4 at kc CC BC
          have O4 := hideP (owns8_keep O3.out BC.out)
          have B4 := hideP (B3.out.trans (BC.out.mono (by have := B3.out.size; have := HS0.out; omega)))
          have hs4 : w.heap.size + 1 ≤ w4.heap.size := by have := B4.out.size; have := HS0.out; omega
          clear hb3 ecp
          go_wp2_with (at_builtin; refine wpList_append8 (base := w.heap.size + 1) w4 rfl (.tmp 47) (.tmp 55) rfl (.slice x3 (P.length + 1 + 1) y3) (.slice (some ⟨w3.heap.size, 0, none⟩) sx.size cp) rfl rfl (P.length + 1 + 1) (P ++ [32, 95]) D w3.heap.size cp (EL.out _ _) O4.out CC.out HD0.out HQ3.out hs4 ?_)
          intro v' w5 ho5 hg5
          have B5 : Hid (Below (w.heap.size + 1) W0 w5) := B4.out.grown hg5 hs4 (fun k hk => (O4.out.lt k hk).1)
          have O5 : Hid (w5.ownsRow (w.heap.size + 1) 5 1 v' (Pl.jt s.nums (k + 1)).length (Lib.byteCells (Pl.jt s.nums (k + 1)))) := by
            show World.ownsRow _ _ _ _ _ _ _
            rw [JN.out, HLN.out]
            exact ho5
          clear ho5 hg5 kc
          go_wp2_with fail
          go_roundw
          case rel => exact ⟨k + 1, by omega, by go_num, O5, B5⟩
          case measure => simp [intOf]; omega
        · skip
          have JN : Hid (Pl.jt s.nums (k + 1) = P ++ 32 :: D) := by
            show _ = _
            rw [J.out, HNT.out]
            simp [hneg, k0]
          have HLN : Hid ((P ++ 32 :: D).length = P.length + 1 + D.length) := by show _ = _; simp; omega
          have HQ1 : Hid (P.length + 1 ≤ 16777216) := by show _ ≤ _; omega
          have HQ2 : Hid (P.length + 1 + 1 ≤ 16777216) := by show _ ≤ _; omega
          have HQ3 : Hid (P.length + 1 + D.length ≤ 16777216) := by show _ ≤ _; omega
          have KE : Hid (∀ w, Calls Tryz.prog 42 #[.int .i64 x] w fun e w' => e = .returned (.string sx) ∧ Below w.heap.size w w') := fun w => by have h := KD.out w; rwa [show (x.natAbs : Int) = x by omega] at h
          have hge : ¬ (x < 0) := hneg
          have k1 : 0 < k := by omega
          clear J HNT hlk hd1 k0 KD
          have AL2 : Hid (Below wr.heap.size wr (wr.alloc (.cells #[.int .u8 32] 5))) := (Below.refl _ _).alloc (Nat.le_refl _) _
          have OA2 := hideP (owns8_keep hO.out AL2.out)
          have BA2 := hideP (BB.out.trans (AL2.out.mono (by have := BB.out.size; have := HS0.out; omega)))
          have hsA2 : w.heap.size + 1 ≤ (wr.alloc (.cells #[.int .u8 32] 5)).heap.size := by have := BA2.out.size; have := HS0.out; omega
          have CA2 : Hid (∀ j y, (Lib.byteCells [32])[j]? = some y → (wr.alloc (.cells #[.int .u8 32] 5)).cell? ⟨wr.heap.size, j, none⟩ = some y) := fun j y hj => by
            match j, hj with
            | 0, hj =>
              simp [Lib.byteCells] at hj
              subst hj
              simp [go_sem]
            | j + 1, hj => simp [Lib.byteCells] at hj
          go_wp2_with (at_builtin; refine wpList_append8 (base := w.heap.size + 1) (wr.alloc (.cells #[.int .u8 32] 5)) rfl (.tmp 35) (.tmp 36) rfl (.slice xo (P.length) yo) (.slice (some ⟨wr.heap.size, 0, none⟩) 1 1) rfl rfl (P.length) (P) [32] wr.heap.size 1 rfl OA2.out CA2.out (by decide) HQ1.out hsA2 ?_)
          intro v2 w2a ho2 hg2
          have B2 : Hid (Below (w.heap.size + 1) W0 w2a) := BA2.out.grown hg2 hsA2 (fun k hk => (OA2.out.lt k hk).1)
          have O2 : Hid (w2a.ownsRow (w.heap.size + 1) 5 1 v2 (P.length + 1) (Lib.byteCells (P ++ [32]))) := ho2
          obtain ⟨x2, y2, e2⟩ := owns8_form O2.out
          subst e2
          have hbx2 := HBXX.out _ B2.out
          have hcx2 := HX.out _ B2.out
          clear ho2 hg2 OA2 AL2 CA2 hsA2 BA2
          go_wp2_with fail
          refine (KE.out _).mono ?_
          rintro e w3 ⟨rfl, hb3⟩
          have B3 := hideP (B2.out.trans (hb3.mono (by have := B2.out.size; have := HS0.out; omega)))
          have O3 := hideP (owns8_keep O2.out hb3)
          have kc := conv8 sx w3
          obtain ⟨cp, ecp⟩ : ∃ cp, grownCap w3 sx.size 0 5 = cp := ⟨_, rfl⟩
          have CC := hideP (CV8.out w3)
          have BC := hideP (conv8_below sx w3)
          rw [ecp] at kc CC BC
          generalize (w3.drew.alloc (.cells (bytesRow sx cp) 5 ((bytesRow sx cp).size, (bytesRow sx cp).size + 1))) = w4 at kc CC BC
          have O4 := hideP (owns8_keep O3.out BC.out)
          have B4 := hideP (B3.out.trans (BC.out.mono (by have := B3.out.size; have := HS0.out; omega)))
          have hs4 : w.heap.size + 1 ≤ w4.heap.size := by have := B4.out.size; have := HS0.out; omega
          clear hb3 ecp
          go_wp2_with (at_builtin; refine wpList_append8 (base := w.heap.size + 1) w4 rfl (.tmp 57) (.tmp 64) rfl (.slice x2 (P.length + 1) y2) (.slice (some ⟨w3.heap.size, 0, none⟩) sx.size cp) rfl rfl (P.length + 1) (P ++ [32]) D w3.heap.size cp (EL.out _ _) O4.out CC.out HD0.out HQ3.out hs4 ?_)
          intro v' w5 ho5 hg5
          have B5 : Hid (Below (w.heap.size + 1) W0 w5) := B4.out.grown hg5 hs4 (fun k hk => (O4.out.lt k hk).1)
          have O5 : Hid (w5.ownsRow (w.heap.size + 1) 5 1 v' (Pl.jt s.nums (k + 1)).length (Lib.byteCells (Pl.jt s.nums (k + 1)))) := by
            show World.ownsRow _ _ _ _ _ _ _
            rw [JN.out, HLN.out]
            exact ho5
          clear ho5 hg5 kc
          go_wp2_with fail
          go_roundw
          case rel => exact ⟨k + 1, by omega, by go_num, O5, B5⟩
          case measure => simp [intOf]; omega
    · obtain rfl : k = n := by omega
      have hbx := HBX.out _ BB.out
      have kc := conv_row (Pl.jt s.nums k) _ wr hO.out
      have BF := hideP (HB0.out.trans (BB.out.mono (Nat.le_succ _)))
      clear HNC HI HJ HLEN HV OE BE
      go_wp2_with fail
      go_ret2
      exact ⟨rfl, BF.out⟩
theorem Tryz.size56 : (Tryz.prog.info? 68).map (·.size) = some 2 := by kernel_rfl
theorem Tryz.lies56 : liesAt Tryz.prog Tryz.prog.depth 68 (2 / Tryz.prog.cellsOf 68) 0 68 1 = true := by kernel_rfl
theorem Tryz.cells5 : Tryz.prog.cellsOf 5 = 1 := by kernel_rfl
theorem Tryz.info5' : (Tryz.prog.info? 5).map (fun i => (i.zero, i.size, i.bytes)) = some (some (.int .u8 0), 1, 1) := by kernel_rfl
set_option maxRecDepth 100000 in
/-- (*strings.Builder).copyCheck, of one that lies in a variable of lines -/
theorem copy_fresh (b : Nat) (w : World) (h0 : w.cell? ⟨b, 0, none⟩ = some (.pointer none)) (hsh : w.shape? b = some (68, 2)) (hfz : w.frozen? ⟨b, 0, none⟩ = false) :
    Calls Tryz.prog 48 #[.pointer (some ⟨b, 0, none⟩)] w fun e w' => e = .returned (.tuple #[]) ∧ w' = w.setCell ⟨b, 0, none⟩ (.pointer (some ⟨b, 0, none⟩)) := by
  obtain ⟨j, hj, hjs⟩ := Option.map_eq_some_iff.1 Tryz.size56
  go_enter Tryz.func48, Tryz.ntmps48
  go_wp2
  rw [Lib.run_to_unsafe w ⟨b, 0, none⟩ Tryz.underlying66 Tryz.underlying120 hj (by rw [hjs]; decide) hsh (Nat.zero_lt_succ 1)]
  simp only [Result.andThen]
  rw [Oper.upon_value]
  go_wp2
  rw [run_callFunc_extern Tryz.func75 (by kernel_rfl) (by kernel_rfl) (by kernel_rfl) (e := Extern.AbiNoEscape.same) (by kernel_rfl)]
  rw [Lib.run_noEscape]
  simp only [Result.andThen]
  rw [Oper.upon_value]
  go_wp2
  rw [Lib.run_from_unsafe w ⟨b, 0, none⟩ Tryz.underlying120 Tryz.underlying66 hj hsh Tryz.lies56]
  simp only [Result.andThen]
  rw [Oper.upon_value]
  go_wp2
  go_end0
  exact ⟨rfl, rfl⟩
set_option maxRecDepth 100000 in
theorem copy_used (b : Nat) (w : World) (h0 : w.cell? ⟨b, 0, none⟩ = some (.pointer (some ⟨b, 0, none⟩))) :
    Calls Tryz.prog 48 #[.pointer (some ⟨b, 0, none⟩)] w fun e w' => e = .returned (.tuple #[]) ∧ w' = w := by
  obtain ⟨j, hj, _⟩ := Option.map_eq_some_iff.1 Tryz.size56
  go_enter Tryz.func48, Tryz.ntmps48
  go_wp2
  rw [Lib.run_neq_ptr_same w _ Tryz.underlying66 hj]
  go_wp2
  go_end0
  exact ⟨rfl, rfl⟩
theorem copy_any (B b : Nat) (bs : List Value) (w : World) (h : Lib.IsBuilderF 68 5 B b bs w) :
    Calls Tryz.prog 48 #[.pointer (some ⟨b, 0, none⟩)] w fun e w' => e = .returned (.tuple #[]) ∧ (Lib.BuilderAtF 68 5 B b (.pointer (some ⟨b, 0, none⟩)) bs w' ∧ Below B w w' ∧ Lib.OthersKept 5 (some b) w w') := by
  rcases h with h | h
  · refine (copy_fresh b w h.cell0 h.shape h.frozen0).mono ?_
    rintro e w' ⟨rfl, rfl⟩
    exact ⟨rfl, h.used _, (Below.refl B w).setCell (p := ⟨b, 0, none⟩) h.1 _, (Lib.OthersKept.refl _ _ w).setCell ⟨b, 0, none⟩ rfl _⟩
  · refine (copy_used b w h.cell0).mono ?_
    rintro e w' ⟨rfl, rfl⟩
    exact ⟨rfl, h, Below.refl B _, Lib.OthersKept.refl _ _ _⟩
set_option maxHeartbeats 2000000 in
set_option maxRecDepth 100000 in
/-- (*strings.Builder).WriteByte -/
theorem writeByte_any (B b : Nat) (bs : List Value) (c : Int) (w : World) (h : Lib.IsBuilderF 68 5 B b bs w) (hlen : bs.length + 1 ≤ 140737488355328) (hBw : B ≤ w.heap.size) :
    Calls Tryz.prog 27 #[.pointer (some ⟨b, 0, none⟩), .int .u8 c] w fun e w' => e = .returned .nilIface ∧ (Lib.BuilderAtF 68 5 B b (.pointer (some ⟨b, 0, none⟩)) (bs ++ [.int .u8 c]) w' ∧ Below B w w' ∧ Lib.OthersKept 5 (some b) w w') := by
  obtain ⟨i0, hi, hz0, hz1, hz2⟩ := info_parts Tryz.info5'
  go_enter Tryz.func27, Tryz.ntmps27
  go_wp2_with (go_at_call 48; refine (copy_any B b bs _ h).mono ?_)
  rintro e w1 ⟨rfl, h1, hb1, hk1⟩
  obtain ⟨hB, v, hbk, hown, hne⟩ := h1
  have c0 : w1.cell? ⟨b, 0, none⟩ = some (.pointer (some ⟨b, 0, none⟩)) := by rw [Lib.cell_of_heap hbk]; rfl
  have c1 : w1.cell? ⟨b, 1, none⟩ = some v := by rw [Lib.cell_of_heap hbk]; rfl
  go_wp2_with (at_builtin; refine wpList_append_ownF _ rfl _ _ 22 rfl B 5 i0 (.int .u8 0) 1 1 und36 hi hz0 hz1 hz2 rfl (by decide) _ _ _ rfl (hown.alloc _) ⟨w1.heap.size, 0, none⟩ 1 1 [.int .u8 c] rfl rfl ?c1 ?c2 ?c3 ?c4 ?c5 ?_)
  case c1 =>
    intro j u hj
    match j, hj with
    | 0, hj => simp at hj; subst hj; simp [Addr.add]
  case c2 => intro u hu; simp at hu; subst hu; rfl
  case c3 => unfold maxLen; omega
  case c4 => omega
  case c5 => have := hb1.size; simp; omega
  intro v' w2 hown' hgrow _
  have hlt : b < w1.heap.size := by
    rcases Nat.lt_or_ge b w1.heap.size with h' | h'
    · exact h'
    · simp [Array.getElem?_eq_none h'] at hbk
  have hb2 : w2.heap[b]? = some (.cells #[.pointer (some ⟨b, 0, none⟩), v] 68 (0, 0)) := by
    rw [hgrow.block b (by simp; omega) (fun e => hne e.symm), Below.heap_alloc w1 _ b hlt]
    exact hbk
  have d0 : w2.cell? ⟨b, 0, none⟩ = some (.pointer (some ⟨b, 0, none⟩)) := by rw [Lib.cell_of_heap hb2]; rfl
  have d1 : w2.cell? ⟨b, 1, none⟩ = some v := by rw [Lib.cell_of_heap hb2]; rfl
  have f1 : w2.frozen? ⟨b, 1, none⟩ = false := Lib.frozen_of_heap hb2 1
  obtain ⟨ao, n', cap, rfl⟩ : ∃ ao n' cap, v' = .slice ao n' cap := by
    rcases hown'.2 with ⟨hv, _⟩ | ⟨g, cap, cur, fz, hv, _⟩
    · exact ⟨_, _, _, hv⟩
    · exact ⟨_, _, _, hv⟩
  go_wp2
  go_ret
  refine ⟨rfl, ?_, ?_, ?_⟩
  · exact Lib.BuilderAtF.put (T := 68) (e := 5) hB hb2 (bs' := bs ++ [.int .u8 c]) (by simpa using hown') (by decide)
  · exact ((hb1.alloc (by have := hb1.size; omega) _).grown hgrow (by have := hb1.size; simp; omega) (fun k hk => (hown.lt k hk).1)).setCell (p := ⟨b, 1, none⟩) hB _
  · exact ((hk1.alloc _).grown hgrow (Lib.ownsRowF_kind (hown.alloc _))).setCell ⟨b, 1, none⟩ rfl _
set_option maxHeartbeats 2000000 in
set_option maxRecDepth 100000 in
/-- (*strings.Builder).WriteString -/
theorem writeString_any (B b : Nat) (bs : List Value) (s : ByteArray) (w : World) (h : Lib.IsBuilderF 68 5 B b bs w) (hlen : bs.length + s.size ≤ 140737488355328) (hBw : B ≤ w.heap.size) :
    Calls Tryz.prog 26 #[.pointer (some ⟨b, 0, none⟩), .string s] w fun e w' => e = .returned (.tuple #[.int .i64 s.size, .nilIface]) ∧ (Lib.BuilderAtF 68 5 B b (.pointer (some ⟨b, 0, none⟩)) (bs ++ Lib.strCells s) w' ∧ Below B w w' ∧ Lib.OthersKept 5 (some b) w w') := by
  obtain ⟨i0, hi, hz0, hz1, hz2⟩ := info_parts Tryz.info5'
  go_enter Tryz.func26, Tryz.ntmps26
  go_wp2_with (go_at_call 48; refine (copy_any B b bs _ h).mono ?_)
  rintro e w1 ⟨rfl, h1, hb1, hk1⟩
  obtain ⟨hB, v, hbk, hown, hne⟩ := h1
  have c0 : w1.cell? ⟨b, 0, none⟩ = some (.pointer (some ⟨b, 0, none⟩)) := by rw [Lib.cell_of_heap hbk]; rfl
  have c1 : w1.cell? ⟨b, 1, none⟩ = some v := by rw [Lib.cell_of_heap hbk]; rfl
  go_wp2_with (at_builtin; refine Lib.wpList_append_own_stringF _ rfl _ _ 22 9 rfl B 5 i0 und36 Tryz.underlying9 hi hz0 hz1 hz2 _ _ _ rfl hown s rfl ?c3 ?c4 ?c5 ?_)
  case c3 => unfold maxLen; omega
  case c4 => omega
  case c5 => have := hb1.size; omega
  intro v' w2 hown' hgrow _
  have hlt : b < w1.heap.size := by
    rcases Nat.lt_or_ge b w1.heap.size with h' | h'
    · exact h'
    · simp [Array.getElem?_eq_none h'] at hbk
  have hb2 : w2.heap[b]? = some (.cells #[.pointer (some ⟨b, 0, none⟩), v] 68 (0, 0)) := by
    rw [hgrow.block b hlt (fun e => hne e.symm)]
    exact hbk
  have d0 : w2.cell? ⟨b, 0, none⟩ = some (.pointer (some ⟨b, 0, none⟩)) := by rw [Lib.cell_of_heap hb2]; rfl
  have d1 : w2.cell? ⟨b, 1, none⟩ = some v := by rw [Lib.cell_of_heap hb2]; rfl
  have f1 : w2.frozen? ⟨b, 1, none⟩ = false := Lib.frozen_of_heap hb2 1
  obtain ⟨ao, n', cap, rfl⟩ : ∃ ao n' cap, v' = .slice ao n' cap := by
    rcases hown'.2 with ⟨hv, _⟩ | ⟨g, cap, cur, fz, hv, _⟩
    · exact ⟨_, _, _, hv⟩
    · exact ⟨_, _, _, hv⟩
  go_wp2
  go_ret2
  refine ⟨rfl, ?_, ?_, (hk1.grown hgrow (Lib.ownsRowF_kind hown)).setCell ⟨b, 1, none⟩ rfl _⟩
  · exact Lib.BuilderAtF.put (T := 68) (e := 5) hB hb2 (bs' := bs ++ Lib.strCells s) (by simpa [Lib.strCells_length] using hown') (by decide)
  · exact (hb1.grown hgrow (by have := hb1.size; omega) (fun k hk => (hown.lt k hk).1)).setCell (p := ⟨b, 1, none⟩) hB _
set_option maxHeartbeats 1000000 in
set_option maxRecDepth 100000 in
/-- (*strings.Builder).String, of one that holds something -/
theorem string_any (B b : Nat) (l : List UInt8) (w : World) (h : Lib.IsBuilderF 68 5 B b (Lib.byteCells l) w) (h0 : l ≠ []) :
    Calls Tryz.prog 28 #[.pointer (some ⟨b, 0, none⟩)] w fun e w' => e = .returned (.string ⟨l.toArray⟩) ∧ Below B w w' := by
  obtain ⟨p, hp, hAt⟩ : ∃ p, (p = .pointer none ∨ p = .pointer (some ⟨b, 0, none⟩)) ∧ Lib.BuilderAtF 68 5 B b p (Lib.byteCells l) w := by
    rcases h with h | h
    · exact ⟨_, .inl rfl, h⟩
    · exact ⟨_, .inr rfl, h⟩
  obtain ⟨hB, v, hbk, hown, hne⟩ := hAt
  have hl0 : l.length ≠ 0 := by simpa using h0
  rw [Lib.byteCells_length] at hown
  obtain ⟨g, cap, cur, fz, rfl, hbg, hg, hfz, hnc, hcm, hcs, htake⟩ : ∃ g cap cur fz, v = .slice (some ⟨g, 0, none⟩) l.length cap ∧ B ≤ g ∧ w.heap[g]? = some (.cells cur 5 fz) ∧ fz.2 ≤ l.length * 1 ∧ l.length ≤ cap ∧ cap ≤ maxLen ∧ cur.size = cap * 1 ∧ cur.toList.take (l.length * 1) = Lib.byteCells l := by
    rcases hown.2 with ⟨_, hz⟩ | ⟨g, cap, cur, fz, hv, r⟩
    · exact absurd hz hl0
    · exact ⟨g, cap, cur, fz, hv, r⟩
  have c1 : w.drew.cell? ⟨b, 1, none⟩ = some (.slice (some ⟨g, 0, none⟩) l.length cap) := by
    have : w.drew.heap[b]? = some (.cells #[p, .slice (some ⟨g, 0, none⟩) l.length cap] 68 (0, 0)) := hbk
    rw [Lib.cell_of_heap this]; rfl
  have hSD : (Builtin.unsafeSliceData_ #[22] 98 #[.slice (some ⟨g, 0, none⟩) l.length cap]).run Tryz.prog w.drew = .ok (.pointer (some ⟨g, 0, none⟩)) w.drew :=
    Lib.run_unsafeSliceData_row _ _ _ _ _ _ (by omega)
  have hUS : (Builtin.unsafeString_ #[98, 3] 9 #[.pointer (some ⟨g, 0, none⟩), .int .i64 l.length]).run Tryz.prog w.drew = .ok (.string ⟨l.toArray⟩) (w.drew.freeze ⟨g, 0, none⟩ l.length) := by
    refine Lib.run_unsafeString_row w.drew 98 3 9 5 Tryz.underlying98 Tryz.cells5 g cur.size (by have hg' : w.drew.heap[g]? = some (.cells cur 5 fz) := hg; simp [World.shape?, hg']) l h0 (by omega) (by unfold maxLen at hcm; omega) ?_
    intro j x hx
    have := hown.cells (g := g) rfl j (.int .u8 x.toNat) (by simp [Lib.byteCells, hx])
    exact this
  have BF : Hid (Below B w (w.drew.freeze ⟨g, 0, none⟩ l.length)) := Lib.below_freeze (Below.drew (Below.refl B w)) (p := ⟨g, 0, none⟩) hbg _
  have mixed : Tryz.prog.follows .mixedOrders = true := by kernel_rfl
  go_enter Tryz.func28, Tryz.ntmps28
  go_wp2
  go_region_o
  all_goals (go_wp2; go_ret; exact ⟨rfl, BF.out⟩)
/-- slices.Contains of strings -/
theorem index_any (L : List ByteArray) (b o cap : Nat) (s : ByteArray) (w : World) (hl : L.length ≤ 1000000) (hc : ∀ j, j < L.length → w.cell? ⟨b, o + j, none⟩ = some (.string (L.getD j default))) :
    Calls Tryz.prog 111 #[.slice (some ⟨b, o, none⟩) L.length cap, .string s] w fun e w' => (∃ z : Int, e = .returned (.int .i64 z) ∧ decide (0 ≤ z) = Pl.hasB L s L.length) ∧ w' = w := by
  have HS : Hid (∀ k, k < L.length → Pl.hasB L s (k + 1) = (Pl.hasB L s k || decide (L.getD k default = s))) := fun k => Pl.hasB_snoc
  have HY : Hid (∀ k, k < L.length → L.getD k default = s → Pl.hasB L s L.length = true) := fun k => Pl.hasB_yes
  have HC := hideP hc
  clear hc
  generalize hn : L.length = n at *
  clear hn
  go_enter Tryz.func111, Tryz.ntmps111
  go_wp2
  go_loop [8] (fun v => ∃ k : Nat, k ≤ n ∧ v = .int .i64 k ∧ Hid (Pl.hasB L s k = false)) (fun v => n - (intOf v).toNat)
  case atStart => exact ⟨0, Nat.zero_le _, rfl, rfl⟩
  case round =>
    obtain ⟨k, hk, rfl, hst⟩ := hrel
    by_cases hlt : k < n
    · have hcell := HC.out k hlt
      have Y := hideP (HY.out k hlt)
      have N := hideP (HS.out k hlt)
      clear HY HS HC
      generalize L.getD k default = x at *
      by_cases hx : x = s
      · have HX := hideP (Y.out hx)
        have hq : (s.toList == x.toList) = true := by rw [ba_eq]; exact decide_eq_true hx.symm
        clear hx Y N
        go_wp2
        go_ret
        exact ⟨⟨_, rfl, by rw [HX.out, decide_eq_true (by omega)]⟩, rfl⟩
      · have HX := hideP (show Pl.hasB L s (k + 1) = false by rw [N.out, hst.out]; simp [hx])
        have hq : (s.toList == x.toList) = false := by rw [ba_eq]; exact decide_eq_false (fun e => hx e.symm)
        clear hx Y N
        go_wp2
        go_round
        case rel => exact ⟨k + 1, by omega, by go_num, HX.out⟩
        case measure => simp [intOf]; omega
    · obtain rfl : k = n := by omega
      clear HY HS HC
      go_wp2
      go_ret
      exact ⟨⟨_, rfl, by rw [hst.out]; rfl⟩, rfl⟩
theorem contains_any (L : List ByteArray) (b o cap : Nat) (s : ByteArray) (w : World) (hl : L.length ≤ 1000000) (hc : ∀ j, j < L.length → w.cell? ⟨b, o + j, none⟩ = some (.string (L.getD j default))) :
    Calls Tryz.prog 99 #[.slice (some ⟨b, o, none⟩) L.length cap, .string s] w fun e w' => e = .returned (.bool (Pl.hasB L s L.length)) ∧ w' = w := by
  have K := hideP (index_any L b o cap s w hl hc)
  clear hc
  generalize Pl.hasB L s L.length = r at *
  generalize L.length = n at *
  go_enter Tryz.func99, Tryz.ntmps99
  go_wp2_with (go_at_call 111; refine K.out.mono ?_; rintro e w' ⟨⟨z, rfl, hz⟩, rfl⟩)
  go_ret
  exact ⟨rfl, rfl⟩
namespace Pl
def setL : List ByteArray := [⟨#[40]⟩, ⟨#[64]⟩, ⟨#[46]⟩]
def setR : List ByteArray := [⟨#[41]⟩, ⟨#[47]⟩, ⟨#[92]⟩, ⟨#[46]⟩]
theorem lf_eq (s : ByteArray) : hasB setL s 3 = lfB s.data.toList := by
  rw [Bool.eq_iff_iff]
  simp only [hasB, setL, lfB, List.take, List.any_cons, List.any_nil, Bool.or_false, Bool.or_eq_true, decide_eq_true_eq, ba_iff, or_assoc]
  constructor <;> (rintro (h | h | h) <;> simp_all)
theorem rt_eq (s : ByteArray) : hasB setR s 4 = rtB s.data.toList := by
  rw [Bool.eq_iff_iff]
  simp only [hasB, setR, rtB, List.take, List.any_cons, List.any_nil, Bool.or_false, Bool.or_eq_true, decide_eq_true_eq, ba_iff, or_assoc]
  constructor <;> (rintro (h | h | h | h) <;> simp_all)
end Pl
/-- impl.together -/
theorem together_any (a c : ByteArray) (w : World) :
    Calls Tryz.prog 87 #[.string a, .string c] w fun e w' => e = .returned (.bool (Pl.tg a.data.toList c.data.toList)) ∧ Below w.heap.size w w' := by
  have HB : Hid (∀ o, Below w.heap.size w (w.alloc o)) := fun o => (Below.refl _ _).alloc (Nat.le_refl _) _
  have HB2 : Hid (∀ o o2, Below w.heap.size w ((w.alloc o).alloc o2)) := fun o o2 => ((Below.refl _ _).alloc (Nat.le_refl _) _).alloc (by simp) _
  have K1 : Hid (Calls Tryz.prog 99 #[.slice (some ⟨w.heap.size, 0, none⟩) 3 3, .string a] (w.alloc (.cells #[.string ⟨#[40]⟩, .string ⟨#[64]⟩, .string ⟨#[46]⟩] 9)) fun e w' => e = .returned (.bool (Pl.lfB a.data.toList)) ∧ w' = w.alloc (.cells #[.string ⟨#[40]⟩, .string ⟨#[64]⟩, .string ⟨#[46]⟩] 9)) := by
    rw [← Pl.lf_eq]
    exact contains_any Pl.setL w.heap.size 0 3 a _ (by decide) (by
      intro j hj
      match j, hj with
      | 0, _ => simp [go_sem]; rfl
      | 1, _ => simp [go_sem]; rfl
      | 2, _ => simp [go_sem]; rfl
      | j + 3, hj => exact absurd hj (by simp [Pl.setL]))
  have K2 : Hid (∀ w : World, Calls Tryz.prog 99 #[.slice (some ⟨w.heap.size, 0, none⟩) 4 4, .string c] (w.alloc (.cells #[.string ⟨#[41]⟩, .string ⟨#[47]⟩, .string ⟨#[92]⟩, .string ⟨#[46]⟩] 9)) fun e w' => e = .returned (.bool (Pl.rtB c.data.toList)) ∧ w' = w.alloc (.cells #[.string ⟨#[41]⟩, .string ⟨#[47]⟩, .string ⟨#[92]⟩, .string ⟨#[46]⟩] 9)) := fun w => by
    rw [← Pl.rt_eq]
    exact contains_any Pl.setR w.heap.size 0 4 c _ (by decide) (by
      intro j hj
      match j, hj with
      | 0, _ => simp [go_sem]; rfl
      | 1, _ => simp [go_sem]; rfl
      | 2, _ => simp [go_sem]; rfl
      | 3, _ => simp [go_sem]; rfl
      | j + 4, hj => exact absurd hj (by simp [Pl.setR]))
  have HT : Hid (Pl.tg a.data.toList c.data.toList = (Pl.lfB a.data.toList || Pl.rtB c.data.toList)) := rfl
  generalize Pl.tg a.data.toList c.data.toList = r at *
  generalize Pl.lfB a.data.toList = x at *
  generalize Pl.rtB c.data.toList = y at *
  cases x
  · have K3 : Hid (∀ o, Calls Tryz.prog 99 #[.slice (some ⟨w.heap.size + 1, 0, none⟩) 4 4, .string c] ((w.alloc o).alloc (.cells #[.string ⟨#[41]⟩, .string ⟨#[47]⟩, .string ⟨#[92]⟩, .string ⟨#[46]⟩] 9)) fun e w' => e = .returned (.bool y) ∧ w' = (w.alloc o).alloc (.cells #[.string ⟨#[41]⟩, .string ⟨#[47]⟩, .string ⟨#[92]⟩, .string ⟨#[46]⟩] 9)) := fun o => by
      have := K2.out (w.alloc o)
      rw [World.size_alloc] at this
      exact this
    clear K2
    go_enter Tryz.func87, Tryz.ntmps87
    go_wp2_with fail
    refine K1.out.mono ?_
    rintro e w1 ⟨rfl, rfl⟩
    go_wp2_with fail
    refine (K3.out _).mono ?_
    rintro e w2 ⟨rfl, rfl⟩
    go_wp2_with fail
    go_ret
    exact ⟨ret_bool (by rw [HT.out]; rfl), HB2.out _ _⟩
  · go_enter Tryz.func87, Tryz.ntmps87
    go_wp2_with fail
    refine K1.out.mono ?_
    rintro e w1 ⟨rfl, rfl⟩
    go_wp2_with fail
    go_ret
    exact ⟨ret_bool (by rw [HT.out]; rfl), HB.out _⟩
theorem grown_of_below' {w w' : World} (h : Below w.heap.size w w') (row : Option Nat) : w.grownBy w' row := ⟨h.os, h.tape, h.output, h.size, fun b hb _ => h.block b hb⟩
/-- a text that grows: in block b it holds the bytes l -/
abbrev Tx (B b : Nat) (l : List UInt8) (w : World) : Prop := Lib.IsBuilderF 68 5 B b (Lib.byteCells l) w
theorem Tx.keep {B b : Nat} {l : List UInt8} {w w' : World} (h : Tx B b l w) (hb : Below w.heap.size w w') : Tx B b l w' := by
  have key : ∀ p, Lib.BuilderAtF 68 5 B b p (Lib.byteCells l) w → Lib.BuilderAtF 68 5 B b p (Lib.byteCells l) w' := fun p hp => by
    have hlt := hp.lt
    obtain ⟨hB, v, hbk, hown, hne⟩ := hp
    refine ⟨hB, v, (hb.block b hlt).trans hbk, hown.kept (grown_of_below' hb none) ?_, hne⟩
    cases v.ownBlock <;> simp
  rcases h with h | h
  · exact .inl (key _ h)
  · exact .inr (key _ h)
theorem Tx.new (w : World) : Tx w.heap.size w.heap.size [] (w.alloc (.cells #[.pointer none, .slice none 0 0] 68)) := Lib.IsBuilderF.of (Lib.fresh_isBuilder 68 5 w)
theorem cells_app (l : List UInt8) (s : ByteArray) : Lib.byteCells l ++ Lib.strCells s = Lib.byteCells (l ++ s.data.toList) := by simp [Lib.byteCells, Lib.strCells]
theorem cells_one (l : List UInt8) (c : UInt8) (ci : Int) (h : ci = c.toNat) : Lib.byteCells l ++ [.int .u8 ci] = Lib.byteCells (l ++ [c]) := by simp [Lib.byteCells, h]
theorem tx_byte (B b : Nat) (l : List UInt8) (c : UInt8) (ci : Int) (hc : ci = c.toNat) (w : World) (h : Tx B b l w) (hl : l.length ≤ 1000000000) (hB : B ≤ w.heap.size) :
    Calls Tryz.prog 27 #[.pointer (some ⟨b, 0, none⟩), .int .u8 ci] w fun e w' => e = .returned .nilIface ∧ Tx B b (l ++ [c]) w' ∧ Below B w w' := by
  refine (writeByte_any B b (Lib.byteCells l) ci w h (by rw [Lib.byteCells_length]; omega) hB).mono ?_
  rintro e w' ⟨rfl, h1, h2, _⟩
  rw [cells_one l c ci hc] at h1
  exact ⟨rfl, .inr h1, h2⟩
theorem tx_str (B b : Nat) (l : List UInt8) (s : ByteArray) (w : World) (h : Tx B b l w) (hl : l.length ≤ 1000000000) (hs : s.size ≤ 1000000000) (hB : B ≤ w.heap.size) :
    Calls Tryz.prog 26 #[.pointer (some ⟨b, 0, none⟩), .string s] w fun e w' => e = .returned (.tuple #[.int .i64 s.size, .nilIface]) ∧ Tx B b (l ++ s.data.toList) w' ∧ Below B w w' := by
  refine (writeString_any B b (Lib.byteCells l) s w h (by rw [Lib.byteCells_length]; omega) hB).mono ?_
  rintro e w' ⟨rfl, h1, h2, _⟩
  rw [cells_app] at h1
  exact ⟨rfl, .inr h1, h2⟩
/-- String of one that nothing was written to -/
theorem tx_nil (b : Nat) (w : World) (h1 : w.cell? ⟨b, 1, none⟩ = some (.slice none 0 0)) :
    Calls Tryz.prog 28 #[.pointer (some ⟨b, 0, none⟩)] w fun e w' => e = .returned (.string ⟨#[]⟩) ∧ Below w.heap.size w w' := by
  have c1 : w.drew.cell? ⟨b, 1, none⟩ = some (.slice none 0 0) := h1
  have HD : Hid (Below w.heap.size w w.drew) := (Below.refl _ _).drew
  have mixed : Tryz.prog.follows .mixedOrders = true := by kernel_rfl
  have hSD : ∀ w, (Builtin.unsafeSliceData_ #[22] 98 #[.slice none 0 0]).run Tryz.prog w = .ok (.pointer none) w := fun w => by kernel_rfl
  have hUS : ∀ w, (Builtin.unsafeString_ #[98, 3] 9 #[.pointer none, .int .i64 0]).run Tryz.prog w = .ok (.string ⟨#[]⟩) w := fun w => by kernel_rfl
  go_enter Tryz.func28, Tryz.ntmps28
  go_wp2
  go_region_o
  all_goals (go_wp2; go_ret; exact ⟨rfl, HD.out⟩)
namespace Pl
/-- what spaced has written of the first k tokens -/
def spk (l : List (List UInt8)) (k : Nat) : List UInt8 := sp tg (l.take k)
theorem lst_last : ∀ (r : List (List UInt8)) (p : List UInt8), lst p r = (p :: r).getLastD p := by
  intro r
  induction r with
  | nil => intro p; rfl
  | cons x r ih => intro p; rw [lst, ih]; cases r <;> rfl
theorem spk_succ {l : List (List UInt8)} {k : Nat} {t : List UInt8} (h : l[k]? = some t) : spk l (k + 1) = spk l k ++ (if k = 0 then [] else bl (tg (l.getD (k - 1) []) t)) ++ t := by
  have hk := (List.getElem?_eq_some_iff.1 h).1
  unfold spk
  rw [List.take_add_one, h]
  show sp tg (l.take k ++ [t]) = _
  by_cases k0 : k = 0
  · subst k0; simp [sp, spt]
  · rw [if_neg k0]
    match e : l.take k, (by intro e; have := congrArg List.length e; rw [List.length_take, List.length_nil] at this; omega : l.take k ≠ []) with
    | p :: r, _ =>
      rw [sp_append]
      have hl : lst p r = l.getD (k - 1) [] := by
        rw [lst_last]
        have h1 : (p :: r).length = k := by rw [← e, List.length_take]; omega
        rw [List.getLastD_eq_getLast?, List.getLast?_eq_getElem?, h1, ← e, List.getElem?_take_of_lt (by omega)]
        rw [List.getD_eq_getElem?_getD, List.getElem?_eq_getElem (by omega)]
        rfl
      rw [hl]
      simp [sp, spt]
theorem spk_len {l : List (List UInt8)} {n : Nat} (h : ∀ t ∈ l, t.length ≤ n) (k : Nat) : (spk l k).length ≤ (n + 1) * l.length := by
  have := sp_len (tg := tg) (n := n) (l.take k) (fun t ht => h t (List.mem_of_mem_take ht))
  have h2 : (l.take k).length ≤ l.length := by rw [List.length_take]; omega
  have h3 : (n + 1) * (l.take k).length ≤ (n + 1) * l.length := Nat.mul_le_mul_left _ h2
  unfold spk
  omega
end Pl
set_option maxHeartbeats 8000000 in
/-- impl.spaced -/
theorem spaced_any (l : List (List UInt8)) (g cap : Nat) (w : World) (hg : g < w.heap.size) (hl : l.length ≤ 10000000) (ht : ∀ t ∈ l, t.length ≤ 30) (hc : ∀ (j : Nat) (t : List UInt8), l[j]? = some t → w.cell? ⟨g, j, none⟩ = some (.string (Pl.ba t))) (hne : Pl.sp Pl.tg l ≠ []) :
    Calls Tryz.prog 71 #[.slice (some ⟨g, 0, none⟩) l.length cap] w fun e w' => e = .returned (.string (Pl.ba (Pl.sp Pl.tg l))) ∧ Below w.heap.size w w' := by
  have HL : Hid (∀ k, (Pl.spk l k).length ≤ 310000000) := fun k => by have := Pl.spk_len ht k; omega
  have HS : Hid (∀ k t, l[k]? = some t → Pl.spk l (k + 1) = Pl.spk l k ++ (if k = 0 then [] else Pl.bl (Pl.tg (l.getD (k - 1) []) t)) ++ t) := fun k t => Pl.spk_succ
  have HG : Hid (∀ k, k < l.length → ∃ t, l[k]? = some t ∧ t.length ≤ 30) := fun k hk => ⟨l[k], List.getElem?_eq_getElem hk, ht _ (List.getElem_mem hk)⟩
  have HC : Hid (∀ w' (j : Nat) (t : List UInt8), Below w.heap.size w w' → l[j]? = some t → w'.cell? ⟨g, j, none⟩ = some (.string (Pl.ba t))) := fun w' j t h hj => (h.cell (p := ⟨g, j, none⟩) hg).trans (hc j t hj)
  have HP : Hid (∀ w' (k : Nat), Below w.heap.size w w' → 0 < k → k < l.length → w'.cell? ⟨g, k - 1, none⟩ = some (.string (Pl.ba (l.getD (k - 1) [])))) := fun w' k h h0 hk => by
    refine (h.cell (p := ⟨g, k - 1, none⟩) hg).trans (hc (k - 1) _ ?_)
    rw [List.getD_eq_getElem?_getD, List.getElem?_eq_getElem (by omega)]
    rfl
  have HE : Hid (Pl.spk l l.length = Pl.sp Pl.tg l) := by show _ = _; unfold Pl.spk; rw [List.take_length]
  have HNE := hideP hne
  have T0 := hideP (Tx.new w)
  have B0 : Hid (Below w.heap.size w (w.alloc (.cells #[.pointer none, .slice none 0 0] 68))) := (Below.refl _ _).alloc (Nat.le_refl _) _
  have HZ0 : Hid (Pl.spk l 0 = []) := rfl
  clear hc ht hne
  generalize hn : l.length = n at *
  clear hn
  go_enter Tryz.func71, Tryz.ntmps71
  go_wp2_with fail
  go_loopw [8] (fun iv wr => ∃ k : Nat, k ≤ n ∧ iv = .int .i64 k ∧ Hid (Tx w.heap.size w.heap.size (Pl.spk l k) wr) ∧ Hid (Below w.heap.size w wr)) (fun iv _ => n - (intOf iv).toNat)
  case atStart => exact ⟨0, Nat.zero_le _, rfl, by rw [HZ0.out]; exact T0, B0⟩
  case round =>
    obtain ⟨k, hk, rfl, hT, BB⟩ := hrel
    have hbs := BB.out.size
    have hlk := HL.out k
    by_cases hlt : k < n
    · obtain ⟨t, ht, htl⟩ := HG.out k hlt
      have cx := HC.out _ k t BB.out ht
      have S := hideP (HS.out k t ht)
      have KW : Hid (∀ (P : List UInt8) w', Tx w.heap.size w.heap.size P w' → P.length ≤ 1000000000 → w.heap.size ≤ w'.heap.size → Calls Tryz.prog 26 #[.pointer (some ⟨w.heap.size, 0, none⟩), .string (Pl.ba t)] w' fun e w2 => e = .returned (.tuple #[.int .i64 (Pl.ba t).size, .nilIface]) ∧ Tx w.heap.size w.heap.size (P ++ t) w2 ∧ Below w.heap.size w' w2) := fun P w' h1 h2 h3 => tx_str w.heap.size w.heap.size P (Pl.ba t) w' h1 h2 (by rw [Pl.ba_size]; omega) h3
      by_cases k0 : k = 0
      · have t0 : decide (0 < k) = false := by rw [decide_eq_false_iff_not]; omega
        have S2 := hideP (show Pl.spk l (k + 1) = Pl.spk l k ++ t by rw [S.out, if_pos k0, List.append_nil])
        clear S k0 HS HG HC HP HL ht
        generalize Pl.ba t = tt at *
        go_wp2_with fail
        refine (KW.out _ _ hT.out (by omega) hbs).mono ?_
        rintro e w2 ⟨rfl, h1, h2⟩
        have H1 : Hid (Tx w.heap.size w.heap.size (Pl.spk l (k + 1)) w2) := by rw [S2.out]; exact h1
        have H2 := hideP (BB.out.trans h2)
        clear h1 h2
        go_wp2_with fail
        go_roundw
        case rel => exact ⟨k + 1, by omega, by go_num, H1, H2⟩
        case measure => simp [intOf]; omega
      · have k1 : 0 < k := by omega
        have cp := HP.out _ k BB.out k1 hlt
        have S2 := hideP (show Pl.spk l (k + 1) = Pl.spk l k ++ Pl.bl (Pl.tg (l.getD (k - 1) []) t) ++ t by rw [S.out, if_neg k0])
        have KT : Hid (Calls Tryz.prog 87 #[.string (Pl.ba (l.getD (k - 1) [])), .string (Pl.ba t)] wr fun e w' => e = .returned (.bool (Pl.tg (l.getD (k - 1) []) t)) ∧ Below wr.heap.size wr w') := together_any (Pl.ba (l.getD (k - 1) [])) (Pl.ba t) wr
        clear S k0 HS HG HC HP HL ht
        generalize hq : l.getD (k - 1) [] = q at *
        clear hq
        generalize hb : Pl.tg q t = b at *
        clear hb
        generalize Pl.ba q = qq at *
        have HTT : Hid (Pl.ba t = Pl.ba t) := rfl
        generalize Pl.ba t = tt at *
        cases b
        · go_wp2_with fail
          refine KT.out.mono ?_
          rintro e w1 ⟨rfl, hb1⟩
          have H1 := hideP hb1
          have X1 := hideP (hT.out.keep hb1)
          have z1 : w.heap.size ≤ w1.heap.size := Nat.le_trans hbs hb1.size
          clear hb1
          go_wp2_with fail
          refine (tx_byte w.heap.size w.heap.size _ 32 32 rfl _ X1.out (by omega) z1).mono ?_
          rintro e w2 ⟨rfl, h1, h2⟩
          have X2 := hideP h1
          have B2 := hideP (BB.out.trans ((H1.out.mono hbs).trans h2))
          have z2 := B2.out.size
          clear h1 h2
          go_wp2_with fail
          refine (KW.out _ _ X2.out (by rw [List.length_append]; simp; omega) z2).mono ?_
          rintro e w3 ⟨rfl, h1, h2⟩
          have X3 : Hid (Tx w.heap.size w.heap.size (Pl.spk l (k + 1)) w3) := by rw [S2.out]; exact h1
          have B3 := hideP (B2.out.trans h2)
          clear h1 h2
          go_wp2_with fail
          go_roundw
          case rel => exact ⟨k + 1, by omega, by go_num, X3, B3⟩
          case measure => simp [intOf]; omega
        · go_wp2_with fail
          refine KT.out.mono ?_
          rintro e w1 ⟨rfl, hb1⟩
          have H1 := hideP hb1
          have X1 := hideP (hT.out.keep hb1)
          have z1 : w.heap.size ≤ w1.heap.size := Nat.le_trans hbs hb1.size
          have B1 := hideP (BB.out.trans (hb1.mono hbs))
          clear hb1
          go_wp2_with fail
          refine (KW.out _ _ X1.out (by omega) z1).mono ?_
          rintro e w3 ⟨rfl, h1, h2⟩
          have X3 : Hid (Tx w.heap.size w.heap.size (Pl.spk l (k + 1)) w3) := by
            rw [S2.out, show Pl.bl true = [] from rfl, List.append_nil]
            exact h1
          have B3 := hideP (B1.out.trans h2)
          clear h1 h2
          go_wp2_with fail
          go_roundw
          case rel => exact ⟨k + 1, by omega, by go_num, X3, B3⟩
          case measure => simp [intOf]; omega
    · obtain rfl : k = n := by omega
      rw [HE.out] at hT
      have K : Hid (Calls Tryz.prog 28 #[.pointer (some ⟨w.heap.size, 0, none⟩)] wr fun e w' => e = .returned (.string (Pl.ba (Pl.sp Pl.tg l))) ∧ Below w.heap.size wr w') := string_any w.heap.size w.heap.size (Pl.sp Pl.tg l) wr hT.out HNE.out
      clear HS HG HC HP HL
      go_wp2_with (go_at_call 28; refine K.out.mono ?_; rintro e w' ⟨rfl, hb⟩)
      go_ret
      exact ⟨rfl, BB.out.trans hb⟩
end Go.Proofs.YthhfpcdbgndioaaGreatDoor
