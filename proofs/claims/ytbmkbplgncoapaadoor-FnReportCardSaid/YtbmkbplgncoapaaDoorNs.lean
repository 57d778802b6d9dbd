import Derived.Test.YtbmkbplgncoapaaDoorNu
import Derived.Test.YtbmkbplgncoapaaDoorOw
namespace Go.Proofs.YtbmkbplgncoapaaDoor
open Go.RowKit
set_option linter.unusedVariables false

/-- rows of two kinds lie in two blocks -/
theorem owns_tag {base base' n n' : Nat} {e e' : TypeId} {w : World} {v v' : Value} {xs xs' : List Value} (h : w.ownsRow base e 1 v n xs) (h' : w.ownsRow base' e' 1 v' n' xs') (hne : ¬ e = e') : v'.ownBlock = none ∨ v'.ownBlock ≠ v.ownBlock := by
  rcases h'.2 with ⟨e1, _⟩ | ⟨g', cp', cur', e1, _, hg', _⟩
  · left; rw [e1]; rfl
  · right
    rcases h.2 with ⟨e2, _⟩ | ⟨g, cp, cur, e2, _, hg, _⟩
    · rw [e1, e2]; simp [Value.ownBlock]
    · rw [e1, e2]
      intro hh
      simp [Value.ownBlock] at hh
      subst hh
      rw [hg] at hg'
      simp at hg'
      exact hne hg'.2

theorem Tryd.info3' : (Tryd.prog.info? 3).map (fun i => (i.zero, i.size, i.bytes)) = some (some (.int .i64 0), 1, 8) := Tryd.info3

theorem own_of_owns' {base n : Nat} {w : World} {v : Value} {zs : List Int} (h : w.ownsRow base 3 1 v n (zs.map (Value.int .i64))) (hn : zs.length = n) : Own base w v zs := by
  rcases hh : h.2 with ⟨e, h0⟩ | ⟨g, cp, cur, e, _⟩
  · obtain rfl := List.length_eq_zero_iff.1 (hn.trans h0)
    exact ⟨none, 0, e, .inl rfl⟩
  · subst e
    exact own_of_owns h hn

/-- what l1Nums says -/
def NsPost (w : World) (s : ByteArray) (e : Ending) (w' : World) : Prop :=
  Below w.heap.size w w' ∧ ∃ (v : Value) (ok : Bool) (zs : List Int), e = .returned (.tuple #[v, .bool ok]) ∧ Own w.heap.size w' v zs ∧ ((ok = true ∧ Pl.Nums (bl s) zs) ∨ (ok = false ∧ ∀ zs, ¬ Pl.Nums (bl s) zs))
theorem ns_yes {w w3 : World} {s : ByteArray} {v : Value} {zs : List Int} (hb : Below w.heap.size w w3) (ho : Own w.heap.size w3 v zs) (h : Pl.Nums (bl s) zs) : NsPost w s (.returned (.tuple #[v, .bool true])) w3 := ⟨hb, v, true, zs, rfl, ho, .inl ⟨rfl, h⟩⟩
theorem ns_no {w w3 : World} {s : ByteArray} {v : Value} {zs : List Int} (hb : Below w.heap.size w w3) (ho : Own w.heap.size w3 v zs) (h : ∀ zs, ¬ Pl.Nums (bl s) zs) : NsPost w s (.returned (.tuple #[v, .bool false])) w3 := ⟨hb, v, false, zs, rfl, ho, .inr ⟨rfl, h⟩⟩

theorem bl_nil {s : ByteArray} : bl s = [] ↔ s = ⟨#[]⟩ := by
  constructor
  · intro h
    apply ByteArray.ext
    exact Array.toList_eq_nil_iff.1 h
  · rintro rfl; rfl

theorem map_snoc_some {f : List UInt8 → Option Int} {done : List ByteArray} {zs : List Int} {k : Nat} {x : ByteArray} {z : Int} (h : (done.take k).map (fun b => f (bl b)) = zs.map some) (hx : done[k]? = some x) (hz : f (bl x) = some z) : (done.take (k + 1)).map (fun b => f (bl b)) = (zs ++ [z]).map some := by
  rw [List.take_add_one, hx, List.map_append, h, List.map_append]
  simp [hz]
theorem map_none {f : List UInt8 → Option Int} {done : List ByteArray} {k : Nat} {x : ByteArray} (hx : done[k]? = some x) (hz : f (bl x) = none) : ∀ zs : List Int, ¬ done.map (fun b => f (bl b)) = zs.map some := by
  intro zs h
  have := congrArg (fun l => l[k]?) h
  simp only [List.getElem?_map, hx, Option.map_some, hz] at this
  cases hq : zs[k]? with
  | none => rw [hq] at this; cases this
  | some q => rw [hq] at this; cases this
theorem parts_done {f : List UInt8 → Option Int} {s : ByteArray} {done : List ByteArray} (h : done.map bl = Pl.cuts 32 (bl s)) (hs : ¬ bl s = []) : (Pl.parts (bl s)).map f = done.map (fun b => f (bl b)) := by
  unfold Pl.parts
  rw [if_neg hs, ← h, List.map_map]
  rfl

set_option maxRecDepth 100000 in
set_option maxHeartbeats 4000000 in
/-- spec.l1Nums -/
theorem l1Nums_any (s : ByteArray) (w : World) (hl : s.size ≤ 1048576) : Calls Tryd.prog 49 #[.string s] w (NsPost w s) := by
  have OE : Hid ((w.alloc (.cells #[] 3)).ownsRow w.heap.size 3 1 (.slice (some ⟨w.heap.size, 0, none⟩) 0 0) 0 (([] : List Int).map (Value.int .i64))) := World.ownsRow_lit w #[] 0 (Nat.le_refl _) (by unfold maxLen; omega) rfl
  have BE : Hid (Below w.heap.size w (w.alloc (.cells #[] 3))) := (Below.refl _ _).alloc (Nat.le_refl _) _
  by_cases hs : s = ⟨#[]⟩
  · subst hs
    go_enter Tryd.func49, Tryd.ntmps49
    go_wp2_with fail
    go_ret2
    exact ns_yes BE.out (own_of_owns' OE.out rfl) (by show _ = _; rfl)
  · have HS : Hid (¬ bl s = []) := fun h => hs (bl_nil.1 h)
    have hq : s.toList.isEmpty = false := by rw [ByteArray.toList_eq, List.isEmpty_eq_false_iff]; exact HS.out
    clear hs
    go_enter Tryd.func49, Tryd.ntmps49
    go_wp2_with fail
    refine (l1Cut_any s 32 32 rfl _ hl).mono ?_
    rintro e w1 ⟨vw, done, rfl, ow, hdone, hb1⟩
    have OW := hideP (owns_base ow (show w.heap.size ≤ (w.alloc (.cells #[] 3)).heap.size by simp))
    have B1 := hideP (BE.out.trans (hb1.mono (by simp)))
    have O1 := hideP (owns_keep OE.out hb1)
    have HP := hideP (parts_done (f := Pl.num) hdone HS.out)
    have HLEN : Hid (∀ x ∈ done, x.size ≤ 1048576) := fun x hx => by
      have h1 : bl x ∈ Pl.cuts 32 (bl s) := by rw [← hdone]; exact List.mem_map_of_mem hx
      have h2 := Pl.cuts_len 32 (bl s) (bl x) h1
      rw [bl_len, bl_len] at h2
      omega
    have hdl : done.length ≤ 1048577 := by
      have := Pl.cuts_count 32 (bl s)
      rw [← hdone, List.length_map, bl_len] at this
      omega
    obtain ⟨xw, yw, ew⟩ := owns_form ow
    subst ew
    clear ow hb1 hdone OE BE
    obtain ⟨n, hn⟩ : ∃ n, done.length = n := ⟨_, rfl⟩
    have Hn := hideP hn
    rw [hn] at hdl OW ⊢
    clear hn
    go_wp2_with fail
    go_loopw [4, 6, 7, 8] (fun ov i _ _ wr => ∃ (k : Nat) (zs : List Int), k ≤ n ∧ i = .int .i64 (k : Int) ∧ Hid (zs.length = k) ∧ Hid (wr.ownsRow w.heap.size 3 1 ov k (zs.map (Value.int .i64))) ∧ Hid (wr.ownsRow w.heap.size 9 1 (.slice xw n yw) n (done.map Value.string)) ∧ Hid (Below w.heap.size w wr) ∧ Hid ((done.take k).map (fun b => Pl.num (bl b)) = zs.map some)) (fun _ i _ _ _ => n - (intOf i).toNat)
    case atStart => exact ⟨0, [], Nat.zero_le _, rfl, rfl, O1, OW, B1, rfl⟩
    case round =>
      obtain ⟨k, zs, hk, rfl, hzl, hO, hW, BB, hM⟩ := hrel
      clear O1 OW B1
      obtain ⟨xo, yo, eo⟩ := owns_form hO.out
      subst eo
      by_cases hlt : k < n
      · have hlt' : (k : Int) < (n : Int) := by omega
        obtain ⟨x, hx⟩ : ∃ x, done[k]? = some x := ⟨_, List.getElem?_eq_getElem (by rw [Hn.out]; exact hlt)⟩
        have hxl := HLEN.out x (List.mem_of_getElem? hx)
        have HX := hideP hx
        obtain ⟨gw, eg⟩ : ∃ gw, xw = some ⟨gw, 0, none⟩ := by
          rcases hW.out.2 with ⟨e, h0⟩ | ⟨g, cp, cur, e, _⟩
          · omega
          · injection e with e1 _ _
            exact ⟨g, e1⟩
        subst eg
        have hc : wr.cell? ⟨gw, k, none⟩ = some (.string x) := by
          rw [hW.out.cellAt k (by omega), List.getElem?_map, hx]
          rfl
        clear hx
        go_wp2_with fail
        refine (l1Num_any x _ hxl).mono ?_
        rintro e w3 ⟨hb3, v, ok, rfl, hv⟩
        have O3 := hideP (owns_keep hO.out hb3)
        have W3 := hideP (owns_keep hW.out hb3)
        have B3 := hideP (BB.out.trans (hb3.mono BB.out.size))
        clear hb3 hc
        rcases hv with ⟨rfl, hv⟩ | ⟨rfl, hv⟩
        · have HM : Hid ((done.take (k + 1)).map (fun b => Pl.num (bl b)) = (zs ++ [v]).map some) := map_snoc_some hM.out HX.out hv
          have AL : Hid (Below w3.heap.size w3 (w3.alloc (.cells #[.int .i64 v] 3))) := (Below.refl _ _).alloc (Nat.le_refl _) _
          have OA := hideP (owns_keep O3.out AL.out)
          have WA := hideP (owns_keep W3.out AL.out)
          have BA := hideP (B3.out.trans (AL.out.mono B3.out.size))
          have hsA := hideP BA.out.size
          have CA : Hid ((w3.alloc (.cells #[.int .i64 v] 3)).cell? ⟨w3.heap.size, 0, none⟩ = some (.int .i64 v)) := by show _ = _; simp [go_sem]
          have HB1 : Hid (k + 1 ≤ 2097152) := by show _ ≤ _; omega
          clear hv
          go_wp2_with (at_builtin; refine wpList_app1 (base := w.heap.size) (w3.alloc (.cells #[.int .i64 v] 3)) rfl (.tmp 32) (.tmp 34) 22 3 (.int .i64 0) 8 rfl Tryd.underlying22 Tryd.info3' rfl (by decide) (.slice xo k yo) rfl w3.heap.size rfl k (zs.map (Value.int .i64)) (.int .i64 v) OA.out CA.out rfl HB1.out hsA.out ?_)
          intro v2 w2 ho2 hg2
          have B2 : Hid (Below w.heap.size w w2) := BA.out.grown hg2 hsA.out (fun k hk => (OA.out.lt k hk).1)
          have W2 : Hid (w2.ownsRow w.heap.size 9 1 (.slice (some ⟨gw, 0, none⟩) n yw) n (done.map Value.string)) := WA.out.kept hg2 (owns_tag OA.out WA.out (by decide))
          have O2 : Hid (w2.ownsRow w.heap.size 3 1 v2 (k + 1) ((zs ++ [v]).map (Value.int .i64))) := by
            show World.ownsRow _ _ _ _ _ _ _
            rw [List.map_append]
            exact ho2
          have HZ : Hid ((zs ++ [v]).length = k + 1) := by show _ = _; rw [List.length_append, hzl.out]; rfl
          clear ho2 hg2
          go_wp2_with fail
          go_roundw
          case rel => exact ⟨k + 1, _, by omega, by go_num, HZ, O2, W2, B2, HM⟩
          case measure => simp [intOf]; omega
        · have HN : Hid (∀ zs, ¬ Pl.Nums (bl s) zs) := fun zs' h => by
            unfold Pl.Nums at h
            rw [HP.out] at h
            exact map_none HX.out hv zs' h
          clear hv
          go_wp2_with fail
          go_ret2
          exact ns_no B3.out (own_of_owns' O3.out hzl.out) HN.out
      · have hlt' : ¬ (k : Int) < (n : Int) := by omega
        have kn : k = n := by omega
        have HY : Hid (Pl.Nums (bl s) zs) := by
          show Pl.Nums _ _
          unfold Pl.Nums
          have := hM.out
          rw [kn, ← Hn.out, List.take_length] at this
          rw [HP.out, this]
        clear kn
        go_wp2_with fail
        go_ret2
        exact ns_yes BB.out (own_of_owns' hO.out hzl.out) HY.out

end Go.Proofs.YtbmkbplgncoapaaDoor
