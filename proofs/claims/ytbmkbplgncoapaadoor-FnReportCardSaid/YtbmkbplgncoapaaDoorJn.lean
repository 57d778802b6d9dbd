import Derived.Test.YtbmkbplgncoapaaDoorDec
import Derived.Lib.Join
import Derived.Laws.IdiomStrings
namespace Go.Proofs.YtbmkbplgncoapaaDoor
open Go.RowKit
set_option linter.unusedVariables false

namespace Pl
/-- numbers in decimal with blanks between -/
def jn (zs : List Int) : List UInt8 := Lib.join (zs.map Lib.itoa) [32]
theorem joinTail_snoc (sep : List UInt8) (r : List (List UInt8)) (y : List UInt8) : Lib.joinTail sep (r ++ [y]) = Lib.joinTail sep r ++ sep ++ y := by
  simp [Lib.joinTail]
theorem itoa_pos (x : Int) : 0 < (Lib.itoa x).length := by
  unfold Lib.itoa
  have h : ∀ u, 0 < (Lib.decDigits u).length := fun u => by
    rw [Lib.decDigits]
    split <;> simp
  split
  · simp
  · exact h _
theorem jn_nil : jn [] = [] := rfl
theorem jn_snoc0 (x : Int) : jn [x] = Lib.itoa x := by unfold jn; exact Lib.join_one _ _
theorem jn_snoc (l : List Int) (x : Int) (h : 0 < l.length) : jn (l ++ [x]) = jn l ++ [32] ++ Lib.itoa x := by
  match l, h with
  | y :: r, _ =>
    unfold jn
    rw [List.map_append, List.map_cons, List.map_cons, List.map_nil, List.cons_append, Lib.join_cons, Lib.join_cons, joinTail_snoc]
    simp
theorem jn_len (l : List Int) (h : ∀ x ∈ l, -9223372036854775807 ≤ x ∧ x ≤ 9223372036854775807) : (jn l).length ≤ 22 * l.length := by
  have key : ∀ r : List Int, (∀ x ∈ r, -9223372036854775807 ≤ x ∧ x ≤ 9223372036854775807) → (Lib.joinTail [32] (r.map Lib.itoa)).length ≤ 22 * r.length := by
    intro r
    induction r with
    | nil => intro _; simp [Lib.joinTail]
    | cons y r ih =>
      intro hr
      have h1 := ih (fun x hx => hr x (List.mem_cons_of_mem _ hx))
      have h2 := hr y (List.mem_cons_self ..)
      have h3 := Lib.itoa_length_le y (by omega) (by omega)
      simp only [Lib.joinTail, List.map_cons, List.flatten_cons, List.length_append, List.length_cons, List.length_nil] at h1 ⊢
      omega
  match l, h with
  | [], _ => simp [jn_nil]
  | y :: r, h =>
    unfold jn
    rw [List.map_cons, Lib.join_cons, List.length_append]
    have h1 := key r (fun x hx => h x (List.mem_cons_of_mem _ hx))
    have h2 := h y (List.mem_cons_self ..)
    have h3 := Lib.itoa_length_le y (by omega) (by omega)
    simp only [List.length_cons]
    omega
end Pl

theorem Tryd.info5 : (Tryd.prog.info? 5).map (fun i => (i.zero, i.size, i.bytes)) = some (some (.int .u8 0), 1, 1) := by kernel_rfl
theorem und58 : Tryd.prog.underlying 58 = some (.slice 5) := by kernel_rfl

theorem owns8_keep {base n : Nat} {w w' : World} {v : Value} {xs : List Value} (h : w.ownsRow base 5 1 v n xs) (hb : Below w.heap.size w w') : w'.ownsRow base 5 1 v n xs := by
  refine ⟨h.1, ?_⟩
  rcases h.2 with h | ⟨g, cap, cur, e, h1, h2, h3⟩
  · exact .inl h
  · exact .inr ⟨g, cap, cur, e, h1, (hb.block g (Array.getElem?_eq_some_iff.1 h2).1).trans h2, h3⟩

theorem owns8_form {base n : Nat} {w : World} {v : Value} {xs : List Value} (h : w.ownsRow base 5 1 v n xs) : ∃ xo yo, v = .slice xo n yo := by
  rcases h.2 with ⟨e, h0⟩ | ⟨g, cp, cur, e, _⟩
  · exact ⟨none, 0, by rw [h0]; exact e⟩
  · exact ⟨_, _, e⟩

/-- append of bytes -/
theorem wpList_append8 {base : Nat} (w : World) {ops : Array Oper} {rest : List Oper} {o : Oper} {a : Act} {Q : Exit → Act → World → Prop} (hg : o.guard = none) (s x : Operand)
    (hop : o.op = Op.call { callee := Callee.builtin Builtin.append, args := #[s, x], argTypes := #[58, 58] }) (v u : Value) (hs : a.eval s = v) (hx : a.eval x = u) (n : Nat) (bs ys : List UInt8) (b cap : Nat) (hu : u = .slice (some ⟨b, 0, none⟩) ys.length cap)
    (hown : w.ownsRow base 5 1 v n (Lib.byteCells bs)) (hc : ∀ j y, (Lib.byteCells ys)[j]? = some y → w.cell? ⟨b, j, none⟩ = some y) (hy : 0 < ys.length) (hbd : n + ys.length ≤ 16777216) (hbase : base ≤ w.heap.size)
    (hK : ∀ v' w', w'.ownsRow base 5 1 v' (n + ys.length) (Lib.byteCells (bs ++ ys)) → w.grownBy w' v.ownBlock → wpList Tryd.prog ops Q rest (a.put o.dst v') w') : wpList Tryd.prog ops Q (o :: rest) a w := by
  obtain ⟨i0, hi, hz0, hz1, hz2⟩ := info_parts Tryd.info5
  subst hu
  obtain ⟨v', w', hr, ho, hg', _⟩ := run_append_own (P := Tryd.prog) w base 58 o.type 5 i0 (.int .u8 0) 1 1 und58 hi hz0 hz1 hz2 rfl (by decide) v n _ hown ⟨b, 0, none⟩ ys.length cap (Lib.byteCells ys) (by simp [Lib.byteCells])
    (by
      intro j y hj
      rw [Addr.add_lit, Nat.zero_add]
      exact hc j y hj)
    (by
      intro y hy
      unfold Lib.byteCells at hy
      obtain ⟨z, _, rfl⟩ := List.mem_map.1 hy
      rfl) (by unfold maxLen; omega) (by omega) hbase
  refine wpList_plain hg fun K hK' => ?_
  unfold Oper.wp
  simp [execOp, hop, resolve, invoke, builtin, hs, hx, hr, Result.andThen]
  exact hK' _ _ (hK v' w' (by simpa [Lib.byteCells] using ho) hg')

theorem conv8 (sx : ByteArray) (w : World) : (convert 9 58 (.string sx)).run Tryd.prog w = .ok (.slice (some ⟨w.heap.size, 0, none⟩) sx.size (grownCap w sx.size 0 5)) (w.drew.alloc (.cells (bytesRow sx (grownCap w sx.size 0 5)) 5 ((bytesRow sx (grownCap w sx.size 0 5)).size, (bytesRow sx (grownCap w sx.size 0 5)).size + 1))) :=
  run_bytes_of_string w 9 58 5 sx (by kernel_rfl) (by kernel_rfl) (by kernel_rfl)
theorem conv8_cells (sx : ByteArray) (w : World) : ∀ j y, (Lib.byteCells sx.data.toList)[j]? = some y → (w.drew.alloc (.cells (bytesRow sx (grownCap w sx.size 0 5)) 5 ((bytesRow sx (grownCap w sx.size 0 5)).size, (bytesRow sx (grownCap w sx.size 0 5)).size + 1))).cell? ⟨w.heap.size, j, none⟩ = some y := by
  intro j y hj
  have h0 : (w.drew.alloc (.cells (bytesRow sx (grownCap w sx.size 0 5)) 5 ((bytesRow sx (grownCap w sx.size 0 5)).size, (bytesRow sx (grownCap w sx.size 0 5)).size + 1))).heap[w.heap.size]? = some (.cells (bytesRow sx (grownCap w sx.size 0 5)) 5 ((bytesRow sx (grownCap w sx.size 0 5)).size, (bytesRow sx (grownCap w sx.size 0 5)).size + 1)) := heap_alloc_new w.drew _
  rw [cell_of_row _ _ j _ 5 _ h0]
  unfold Lib.byteCells at hj
  unfold bytesRow
  rw [List.getElem?_map] at hj
  obtain ⟨z, hz, rfl⟩ := Option.map_eq_some_iff.1 hj
  have hlt := (List.getElem?_eq_some_iff.1 hz).1
  rw [Array.getElem?_append_left (by simpa using hlt), Array.getElem?_map]
  have : sx.data[j]? = some z := by simpa using hz
  rw [this]
  rfl
theorem conv8_below (sx : ByteArray) (w : World) : Below w.heap.size w (w.drew.alloc (.cells (bytesRow sx (grownCap w sx.size 0 5)) 5 ((bytesRow sx (grownCap w sx.size 0 5)).size, (bytesRow sx (grownCap w sx.size 0 5)).size + 1))) := (Below.refl _ _).drew.alloc (Nat.le_refl _) _

set_option maxRecDepth 100000 in
theorem conv_row {base : Nat} (bs : List UInt8) (v : Value) (w : World) (h : w.ownsRow base 5 1 v bs.length (Lib.byteCells bs)) : (convert 58 9 v).run Tryd.prog w = .ok (.string ⟨bs.toArray⟩) w := by
  rcases hh : h.2 with ⟨e, h0⟩ | ⟨g, cp, cur, e, hB, hg, h1, h2, h3, h4⟩
  · obtain rfl : bs = [] := List.eq_nil_of_length_eq_zero h0
    rw [e]
    exact run_convert_bytes_nil w 58 5 (by kernel_rfl) (by kernel_rfl) 0 0 9 (by kernel_rfl)
  · rw [e]
    have := run_convert_bytes_arg (P := Tryd.prog) w 58 5 (by kernel_rfl) (by kernel_rfl) g 0 bs.length cp (bs.map (fun b => (b.toNat : Int))) (by simp) (fun i hi => by
      rw [Nat.zero_add, cell_of_row w g i cur 5 (0, 0) hg]
      have e2 : (cur.toList.take (bs.length * 1))[i]? = (Lib.byteCells bs)[i]? := by rw [h4]
      rw [List.getElem?_take_of_lt (by omega)] at e2
      rw [← Array.getElem?_toList, e2]
      simp [Lib.byteCells, List.getD, hi]) 9 (by kernel_rfl)
    have e3 : strOfNums (bs.map (fun b => (b.toNat : Int))) = ⟨bs.toArray⟩ := by
      unfold strOfNums
      rw [List.map_map]
      have e4 : bs.map ((fun n : Int => UInt8.ofNat n.toNat) ∘ fun b : UInt8 => (b.toNat : Int)) = bs := by
        have : ((fun n : Int => UInt8.ofNat n.toNat) ∘ fun b : UInt8 => (b.toNat : Int)) = id := by
          funext b
          simp
        rw [this, List.map_id]
      rw [e4]
    rw [this, e3]

set_option maxRecDepth 100000 in
set_option maxHeartbeats 4000000 in
/-- spec.l1Join -/
theorem l1Join_any (b off cap : Nat) (zs : List Int) (w : World) (hl : zs.length ≤ 1000) (hv : ∀ x ∈ zs, -9223372036854775807 ≤ x ∧ x ≤ 9223372036854775807) (hb : b < w.heap.size) (hc : ∀ i, i < zs.length → w.cell? ⟨b, off + i, none⟩ = some (.int .i64 (zs.getD i 0))) :
    Calls Tryd.prog 43 #[.slice (some ⟨b, off, none⟩) zs.length cap] w fun e w' => e = .returned (.string ⟨(Pl.jn zs).toArray⟩) ∧ Below w.heap.size w w' := by
  have HC := hideP hc
  have HV := hideP hv
  have HLEN : Hid (∀ k, (Pl.jn (zs.take k)).length ≤ 22000) := fun k => by
    have h1 := Pl.jn_len (zs.take k) (fun x hx => hv x (List.mem_of_mem_take hx))
    have h2 : (zs.take k).length ≤ 1000 := by rw [List.length_take]; omega
    omega
  have OE : Hid ((w.alloc (.cells #[] 5)).ownsRow w.heap.size 5 1 (.slice (some ⟨w.heap.size, 0, none⟩) 0 0) 0 (Lib.byteCells [])) := World.ownsRow_lit w #[] 0 (Nat.le_refl _) (by unfold maxLen; omega) rfl
  have BE : Hid (Below w.heap.size w (w.alloc (.cells #[] 5))) := (Below.refl _ _).alloc (Nat.le_refl _) _
  clear hc hv
  go_enter Tryd.func43, Tryd.ntmps43
  go_wp2_with fail
  go_loopw [3, 4] (fun ov i wr => ∃ k : Nat, k ≤ zs.length ∧ i = .int .i64 (k : Int) ∧ Hid (wr.ownsRow w.heap.size 5 1 ov (Pl.jn (zs.take k)).length (Lib.byteCells (Pl.jn (zs.take k)))) ∧ Hid (Below w.heap.size w wr)) (fun _ i _ => zs.length - (intOf i).toNat)
  case atStart => exact ⟨0, Nat.zero_le _, rfl, OE, BE⟩
  case round =>
    obtain ⟨k, hk, rfl, hO, BB⟩ := hrel
    obtain ⟨xo, yo, eo⟩ := owns8_form hO.out
    subst eo
    by_cases hlt : k < zs.length
    · have hlt' : (k : Int) < (zs.length : Int) := by omega
      obtain ⟨x, hx⟩ : ∃ x, zs.getD k 0 = x := ⟨_, rfl⟩
      have hmem : x ∈ zs := by rw [← hx]; simp [List.getD, hlt]
      have hvx := HV.out x hmem
      have hcx : ∀ W, Below w.heap.size w W → W.cell? ⟨b, off + k, none⟩ = some (.int .i64 x) := fun W hW => by
        rw [← hx]
        exact (hW.cell (p := ⟨b, off + k, none⟩) hb).trans (HC.out k hlt)
      have HCX := hideP hcx
      obtain ⟨sx, hsx⟩ : ∃ sx : ByteArray, (⟨(Lib.itoa x).toArray⟩ : ByteArray) = sx := ⟨_, rfl⟩
      have KD : Hid (∀ w, Calls Tryd.prog 56 #[.int .i64 x] w fun e w' => e = .returned (.string sx) ∧ Below w.heap.size w w') := fun w => by
        have := l1Dec_any x w hvx.1 hvx.2
        rw [hsx] at this
        exact this
      have hil := Lib.itoa_length_le x (by omega) (by omega)
      have hip : 0 < (Lib.itoa x).length := Pl.itoa_pos x
      have ES : sx.size = (Lib.itoa x).length := by rw [← hsx]; show (Lib.itoa x).toArray.size = _; simp
      have ED : sx.data.toList = Lib.itoa x := by rw [← hsx]
      have htk : zs.take (k + 1) = zs.take k ++ [x] := by
        rw [List.take_succ_eq_append_getElem hlt, ← hx]
        simp [List.getD, hlt]
      have hlk := HLEN.out k
      have hkl : (zs.take k).length = k := by rw [List.length_take]; omega
      have CV8 : Hid (∀ w3 : World, ∀ j y, (Lib.byteCells (Lib.itoa x))[j]? = some y → (w3.drew.alloc (.cells (bytesRow sx (grownCap w3 sx.size 0 5)) 5 ((bytesRow sx (grownCap w3 sx.size 0 5)).size, (bytesRow sx (grownCap w3 sx.size 0 5)).size + 1))).cell? ⟨w3.heap.size, j, none⟩ = some y) := fun w3 => by
        have := conv8_cells sx w3
        rw [ED] at this
        exact this
      have EL : Hid (∀ p c : Nat, (Value.slice (some ⟨p, 0, none⟩) sx.size c) = .slice (some ⟨p, 0, none⟩) (Lib.itoa x).length c) := fun p c => by rw [ES]
      have HSX := hideP hip
      by_cases hk0 : k = 0
      · have JN : Hid (Pl.jn (zs.take (k + 1)) = Pl.jn (zs.take k) ++ Lib.itoa x) := by
          show _ = _
          rw [htk, hk0]
          simp [Pl.jn_nil, Pl.jn_snoc0]
        have HBD : Hid ((Pl.jn (zs.take k)).length + (Lib.itoa x).length ≤ 16777216) := by show _ ≤ _; omega
        have OO := hO
        have t0 : decide (0 < k) = false := by rw [decide_eq_false_iff_not]; omega
        have cx := HCX.out _ BB.out
        clear hx hmem hvx hcx hsx ES ED htk hlk hkl hil hip hk0
        generalize Pl.jn (zs.take k) = P at *
        go_wp2_with fail
        refine (KD.out _).mono ?_
        rintro e w3 ⟨rfl, hb3⟩
        have B3 := hideP (BB.out.trans (hb3.mono BB.out.size))
        have O3 := hideP (owns8_keep OO.out hb3)
        have kc := conv8 sx w3
        obtain ⟨cp, ecp⟩ : ∃ cp, grownCap w3 sx.size 0 5 = cp := ⟨_, rfl⟩
        have CC := hideP (CV8.out w3)
        have BC := hideP (conv8_below sx w3)
        rw [ecp] at kc CC BC
        generalize (w3.drew.alloc (.cells (bytesRow sx cp) 5 ((bytesRow sx cp).size, (bytesRow sx cp).size + 1))) = w4 at kc CC BC
        have O4 := hideP (owns8_keep O3.out BC.out)
        have B4 := hideP (B3.out.trans (BC.out.mono B3.out.size))
        have hs4 := B4.out.size
        clear hb3 ecp
        go_wp2_with (at_builtin; refine wpList_append8 (base := w.heap.size) w4 rfl (.tmp 17) (.tmp 23) rfl (.slice xo P.length yo) (.slice (some ⟨w3.heap.size, 0, none⟩) sx.size cp) rfl rfl (P.length) (P) (Lib.itoa x) w3.heap.size cp (EL.out _ _) O4.out CC.out HSX.out HBD.out hs4 ?_)
        intro v' w5 ho5 hg5
        have B5 : Hid (Below w.heap.size w w5) := B4.out.grown hg5 hs4 (fun k hk => (O4.out.lt k hk).1)
        have O5 : Hid (w5.ownsRow w.heap.size 5 1 v' (Pl.jn (zs.take (k + 1))).length (Lib.byteCells (Pl.jn (zs.take (k + 1))))) := by
          show World.ownsRow _ _ _ _ _ _ _
          rw [JN.out]
          rw [List.length_append]; exact ho5
        clear ho5 hg5 kc
        go_wp2_with fail
        go_roundw
        case rel => exact ⟨k + 1, by omega, by go_num, O5, B5⟩
        case measure => simp [intOf]; omega
      · have JN : Hid (Pl.jn (zs.take (k + 1)) = Pl.jn (zs.take k) ++ [32] ++ Lib.itoa x) := by
          show _ = _
          rw [htk]
          exact Pl.jn_snoc _ _ (by omega)
        have HBD : Hid ((Pl.jn (zs.take k)).length + 1 + (Lib.itoa x).length ≤ 16777216) := by show _ ≤ _; omega
        have HB1 : Hid ((Pl.jn (zs.take k)).length + 1 ≤ 16777216) := by show _ ≤ _; omega
        have t0 : 0 < k := by omega
        clear hx hmem hvx hcx hsx ES ED htk hlk hkl hil hip hk0
        generalize Pl.jn (zs.take k) = P at *
        have AL : Hid (Below wr.heap.size wr (wr.alloc (.cells #[.int .u8 32] 5))) := (Below.refl _ _).alloc (Nat.le_refl _) _
        have OA := hideP (owns8_keep hO.out AL.out)
        have BA := hideP (BB.out.trans (AL.out.mono BB.out.size))
        have hsA := BA.out.size
        have CA : Hid (∀ j y, (Lib.byteCells [32])[j]? = some y → (wr.alloc (.cells #[.int .u8 32] 5)).cell? ⟨wr.heap.size, j, none⟩ = some y) := fun j y hj => by
          match j, hj with
          | 0, hj =>
            simp [Lib.byteCells] at hj
            subst hj
            simp [go_sem]
          | j + 1, hj => simp [Lib.byteCells] at hj
        go_wp2_with (at_builtin; refine wpList_append8 (base := w.heap.size) (wr.alloc (.cells #[.int .u8 32] 5)) rfl (.tmp 14) (.tmp 15) rfl (.slice xo P.length yo) (.slice (some ⟨wr.heap.size, 0, none⟩) 1 1) rfl rfl P.length P [32] wr.heap.size 1 rfl OA.out CA.out (by decide) HB1.out hsA ?_)
        intro v2 w2 ho2 hg2
        have BB2 : Hid (Below w.heap.size w w2) := BA.out.grown hg2 hsA (fun k hk => (OA.out.lt k hk).1)
        have OO : Hid (w2.ownsRow w.heap.size 5 1 v2 (P.length + 1) (Lib.byteCells (P ++ [32]))) := ho2
        obtain ⟨x2, y2, e2⟩ := owns8_form OO.out
        subst e2
        have cx := HCX.out _ BB2.out
        clear ho2 hg2 BA OA AL CA hsA
        clear BB
        have BB := BB2
        clear BB2
        go_wp2_with fail
        refine (KD.out _).mono ?_
        rintro e w3 ⟨rfl, hb3⟩
        have B3 := hideP (BB.out.trans (hb3.mono BB.out.size))
        have O3 := hideP (owns8_keep OO.out hb3)
        have kc := conv8 sx w3
        obtain ⟨cp, ecp⟩ : ∃ cp, grownCap w3 sx.size 0 5 = cp := ⟨_, rfl⟩
        have CC := hideP (CV8.out w3)
        have BC := hideP (conv8_below sx w3)
        rw [ecp] at kc CC BC
        generalize (w3.drew.alloc (.cells (bytesRow sx cp) 5 ((bytesRow sx cp).size, (bytesRow sx cp).size + 1))) = w4 at kc CC BC
        have O4 := hideP (owns8_keep O3.out BC.out)
        have B4 := hideP (B3.out.trans (BC.out.mono B3.out.size))
        have hs4 := B4.out.size
        clear hb3 ecp
        go_wp2_with (at_builtin; refine wpList_append8 (base := w.heap.size) w4 rfl (.tmp 17) (.tmp 23) rfl (.slice x2 (P.length + 1) y2) (.slice (some ⟨w3.heap.size, 0, none⟩) sx.size cp) rfl rfl (P.length + 1) (P ++ [32]) (Lib.itoa x) w3.heap.size cp (EL.out _ _) O4.out CC.out HSX.out HBD.out hs4 ?_)
        intro v' w5 ho5 hg5
        have B5 : Hid (Below w.heap.size w w5) := B4.out.grown hg5 hs4 (fun k hk => (O4.out.lt k hk).1)
        have O5 : Hid (w5.ownsRow w.heap.size 5 1 v' (Pl.jn (zs.take (k + 1))).length (Lib.byteCells (Pl.jn (zs.take (k + 1))))) := by
          show World.ownsRow _ _ _ _ _ _ _
          rw [JN.out]
          have e9 : P ++ [32] ++ Lib.itoa x = P ++ 32 :: Lib.itoa x := by simp
          have e8 : (P ++ 32 :: Lib.itoa x).length = P.length + 1 + (Lib.itoa x).length := by simp; omega
          rw [e9, e8]
          exact ho5
        clear ho5 hg5 kc
        go_wp2_with fail
        go_roundw
        case rel => exact ⟨k + 1, by omega, by go_num, O5, B5⟩
        case measure => simp [intOf]; omega
    · have kn : k = zs.length := by omega
      have hge : ¬ ((k : Int) < (zs.length : Int)) := by omega
      have EP : Hid (zs.take k = zs) := by show _ = _; rw [kn]; simp
      rw [EP.out] at hO
      have kc := conv_row (Pl.jn zs) _ wr hO.out
      rw [EP.out]
      clear kn
      go_wp2_with fail
      go_ret
      exact ⟨rfl, BB.out⟩

end Go.Proofs.YtbmkbplgncoapaaDoor
