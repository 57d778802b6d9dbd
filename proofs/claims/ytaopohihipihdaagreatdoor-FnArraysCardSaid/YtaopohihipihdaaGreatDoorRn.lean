import Derived.Test.YtaopohihipihdaaGreatDoorPy
import Derived.Laws.Strings2
import Derived.Test.YtaopohihipihdaaGreatDoorValid
import Derived.Test.YtaopohihipihdaaGreatDoorEnv2
import Derived.Lib.AtoiErrMem
namespace Go.Proofs.YtaopohihipihdaaGreatDoor
open Go.RowKit
set_option linter.unusedVariables false

abbrev bl (s : ByteArray) : List UInt8 := s.data.toList
theorem bl_len (s : ByteArray) : (bl s).length = s.size := by rw [Array.length_toList]; rfl
theorem bl_extract (s : ByteArray) (i j : Nat) : bl (s.extract i j) = ((bl s).drop i).take (j - i) := by
  show (s.extract i j).data.toList = _
  rw [ByteArray.data_extract, Array.toList_extract, List.extract_eq_take_drop]

/-- the state of the cutting -/
def Ct (c : UInt8) (s : ByteArray) (done : List ByteArray) (f k : Nat) : Prop :=
  (k ≤ s.size ∧ f ≤ k ∧ Pl.cuts c (bl s) = done.map bl ++ Pl.cuts c ((bl s).drop f) ∧ c ∉ ((bl s).drop f).take (k - f)) ∨ (k = s.size + 1 ∧ done.map bl = Pl.cuts c (bl s))
theorem Ct.start (c : UInt8) (s : ByteArray) : Ct c s [] 0 0 := .inl ⟨Nat.zero_le _, Nat.le_refl _, rfl, by simp⟩
theorem Ct.le {c : UInt8} {s : ByteArray} {done : List ByteArray} {f k : Nat} (h : Ct c s done f k) (hk : k ≤ s.size) : f ≤ k := by
  rcases h with h | h
  · exact h.2.1
  · omega
theorem drop_at (l : List UInt8) (f k : Nat) (hf : f ≤ k) (hk : k < l.length) : l.drop f = (l.drop f).take (k - f) ++ l.getD k 0 :: l.drop (k + 1) := by
  have e : l.drop f = (l.drop f).take (k - f) ++ (l.drop f).drop (k - f) := (List.take_append_drop _ _).symm
  rw [List.drop_drop, show f + (k - f) = k by omega, List.drop_eq_getElem_cons hk] at e
  rw [List.getD_eq_getElem?_getD, List.getElem?_eq_getElem hk]
  exact e
theorem Ct.hit {c : UInt8} {s : ByteArray} {done : List ByteArray} {f k : Nat} (h : Ct c s done f k) (hk : k < s.size) (hc : (bl s).getD k 0 = c) : Ct c s (done ++ [s.extract f k]) (k + 1) (k + 1) := by
  rcases h with ⟨_, h2, h3, h4⟩ | h
  · refine .inl ⟨hk, Nat.le_refl _, ?_, by simp⟩
    have e := drop_at (bl s) f k h2 (by rw [bl_len]; exact hk)
    rw [hc] at e
    rw [h3, List.map_append, List.map_cons, List.map_nil, bl_extract]
    conv => lhs; rw [e]
    rw [Pl.cuts_app c _ _ h4, List.append_assoc]
    rfl
  · omega
theorem Ct.last {c : UInt8} {s : ByteArray} {done : List ByteArray} {f k : Nat} (h : Ct c s done f k) (hk : k = s.size) : Ct c s (done ++ [s.extract f k]) (k + 1) (k + 1) := by
  rcases h with ⟨_, h2, h3, h4⟩ | h
  · refine .inr ⟨by omega, ?_⟩
    have e : ((bl s).drop f).take (k - f) = (bl s).drop f := List.take_of_length_le (by rw [List.length_drop, bl_len]; omega)
    rw [e] at h4
    rw [h3, List.map_append, List.map_cons, List.map_nil, bl_extract, e, Pl.cuts_one c _ h4]
  · omega
theorem Ct.done {c : UInt8} {s : ByteArray} {done : List ByteArray} {f k : Nat} (h : Ct c s done f k) (hk : ¬ k ≤ s.size) : done.map bl = Pl.cuts c (bl s) := by
  rcases h with h | h
  · omega
  · exact h.2

end Go.Proofs.YtaopohihipihdaaGreatDoor

namespace Go.Proofs.YtaopohihipihdaaGreatDoor
open Go.RowKit
set_option linter.unusedVariables false

theorem ba_eq {a b : ByteArray} : (a.toList == b.toList) = decide (a = b) := by
  rw [ByteArray.toList_eq, ByteArray.toList_eq]
  by_cases h : a = b
  · subst h; simp
  · have : ¬ a.data.toList = b.data.toList := fun e => h (by cases a; cases b; simp at e ⊢; exact e)
    rw [decide_eq_false h]; exact beq_eq_false_iff_ne.2 this

end Go.Proofs.YtaopohihipihdaaGreatDoor

namespace Go.Proofs.YtaopohihipihdaaGreatDoor
open Go.RowKit
set_option linter.unusedVariables false

theorem own_of_owns' {base n : Nat} {w : World} {v : Value} {zs : List Int} (h : w.ownsRow base 3 1 v n (zs.map (Value.int .i64))) (hn : zs.length = n) : Own base w v zs := by
  rcases hh : h.2 with ⟨e, h0⟩ | ⟨g, cp, cur, e, _⟩
  · obtain rfl := List.length_eq_zero_iff.1 (hn.trans h0)
    exact ⟨none, 0, e, .inl rfl⟩
  · subst e
    exact own_of_owns h hn

theorem bl_nil {s : ByteArray} : bl s = [] ↔ s = ⟨#[]⟩ := by
  constructor
  · intro h
    apply ByteArray.ext
    exact Array.toList_eq_nil_iff.1 h
  · rintro rfl; rfl

theorem map_snoc_some {f : List UInt8 → Option Int} {done : List ByteArray} {zs : List Int} {k : Nat} {x : ByteArray} {z : Int} (h : (done.take k).map (fun b => f (bl b)) = zs.map some) (hx : done[k]? = some x) (hz : f (bl x) = some z) : (done.take (k + 1)).map (fun b => f (bl b)) = (zs ++ [z]).map some := by
  rw [List.take_add_one, hx, List.map_append, h, List.map_append]
  simp [hz]
theorem map_none {f : List UInt8 → Option Int} {done : List ByteArray} {k : Nat} {x : ByteArray} (hx : done[k]? = some x) (hz : f (bl x) = none) : ∀ zs : List Int, ¬ done.map (fun b => f (bl b)) = zs.map some := by
  intro zs h
  have := congrArg (fun l => l[k]?) h
  simp only [List.getElem?_map, hx, Option.map_some, hz] at this
  cases hq : zs[k]? with
  | none => rw [hq] at this; cases this
  | some q => rw [hq] at this; cases this
theorem parts_done {f : List UInt8 → Option Int} {s : ByteArray} {done : List ByteArray} (h : done.map bl = Pl.cuts 32 (bl s)) (hs : ¬ bl s = []) : (Pl.parts (bl s)).map f = done.map (fun b => f (bl b)) := by
  unfold Pl.parts
  rw [if_neg hs, ← h, List.map_map]
  rfl

end Go.Proofs.YtaopohihipihdaaGreatDoor

namespace Go.Proofs.YtaopohihipihdaaGreatDoor
open Go.RowKit
set_option linter.unusedVariables false

theorem Tryz.gSyn : Tryz.prog.globalNamed "strconv.ErrSyntax" = some 1 := by kernel_rfl
theorem Tryz.gRan : Tryz.prog.globalNamed "strconv.ErrRange" = some 2 := by kernel_rfl

/-- the library's variables -/
structure Ev (w : World) : Prop where
  tab : Tab w
  ml : ∃ m, w.cell? ⟨0, 0, none⟩ = some (.int .i64 m)
  es : ∃ tp p, w.var? Tryz.prog "strconv.ErrSyntax" = some #[.iface tp p]
  er : ∃ tp p, w.var? Tryz.prog "strconv.ErrRange" = some #[.iface tp p]
  sz : 3 < w.heap.size
theorem Ev.keep {w w' : World} (h : Ev w) (hb : Below w.heap.size w w') : Ev w' := by
  obtain ⟨h1, ⟨m, h2⟩, ⟨t3, p3, h3⟩, ⟨t4, p4, h4⟩, h5⟩ := h
  exact ⟨h1.keep hb, ⟨m, (hb.cell (p := ⟨0, 0, none⟩) (show 0 < w.heap.size by omega)).trans h2⟩, ⟨t3, p3, var?_below hb Tryz.gSyn (by omega) h3⟩, ⟨t4, p4, var?_below hb Tryz.gRan (by omega) h4⟩, Nat.lt_of_lt_of_le h5 hb.size⟩

/-- strconv.Atoi -/
theorem atoi_any (s : ByteArray) (w : World) (hl : s.size ≤ 1048576) (he : Ev w) :
    Calls Tryz.prog 47 #[.string s] w fun e w' => Below w.heap.size w w' ∧ ((∃ v, Pl.at1 (bl s) = some v ∧ e = .returned (.tuple #[.int .i64 v, .nilIface])) ∨ (Pl.at1 (bl s) = none ∧ ∃ x N, e = .returned (.tuple #[.int .i64 x, .iface 108 (.pointer (some ⟨N, 0, none⟩))]))) := by
  obtain ⟨h1, _, ⟨t3, p3, h3⟩, ⟨t4, p4, h4⟩, h5⟩ := he
  cases h : Lib.atoiAll s.data.toList with
  | ok v =>
    refine (Tryz.strconv_Atoi_ok s (by omega) v h w).mono ?_
    rintro e w' ⟨rfl, hw⟩
    refine ⟨?_, .inl ⟨v, by unfold Pl.at1; show (match Lib.atoiAll s.data.toList with | .ok v => some v | _ => none) = _; rw [h], rfl⟩⟩
    rcases hw with rfl | ⟨t, rfl⟩
    · exact Below.refl _ _
    · exact Lib.bytesWorld_below _ _ _
  | «syntax» =>
    refine (Tryz.strconv_Atoi_syntax_var s (by omega) h t3 p3 w h3).mono ?_
    rintro e w' ⟨N, rfl, _, _, hb⟩
    exact ⟨hb, .inr ⟨by unfold Pl.at1; show (match Lib.atoiAll s.data.toList with | .ok v => some v | _ => none) = _; rw [h], 0, N, rfl⟩⟩
  | range =>
    refine (Tryz.strconv_Atoi_range_var s (by omega) h t4 p4 w h4).mono ?_
    rintro e w' ⟨N, rfl, _, _, hb⟩
    exact ⟨hb, .inr ⟨by unfold Pl.at1; show (match Lib.atoiAll s.data.toList with | .ok v => some v | _ => none) = _; rw [h], _, N, rfl⟩⟩

/-- strings.Split at blanks -/
theorem split_any (s : ByteArray) (w : World) (hl : s.size ≤ 1048576) (he : Ev w) :
    Calls Tryz.prog 46 #[.string s, .string ⟨#[32]⟩] w fun e w' => ∃ done : List ByteArray, e = .returned (.slice (some ⟨w.heap.size, 0, none⟩) done.length done.length) ∧ w'.ownsRow w.heap.size 9 1 (.slice (some ⟨w.heap.size, 0, none⟩) done.length done.length) done.length (done.map Value.string) ∧ done.map bl = Pl.cuts 32 (bl s) ∧ Below w.heap.size w w' := by
  obtain ⟨_, ⟨m, hm⟩, _⟩ := he
  refine (Tryz.strings_Split s ⟨#[32]⟩ m w (by omega) hm (by decide)).mono ?_
  rintro e w' ⟨rfl, rfl⟩
  have hlen := Lib.splitB_all ⟨#[32]⟩ (by decide) 0 (Lib.countB s ⟨#[32]⟩) s rfl
  have hdat := Lib.splitB_data ⟨#[32]⟩ 0 (Lib.countB s ⟨#[32]⟩) s
  have hcut := Pl.split_cuts 32 _ (bl s) (Nat.le_refl _)
  have hle := Lib.countB_le ⟨#[32]⟩ (by decide) s.size s (Nat.le_refl _)
  have hd : (Lib.splitB ⟨#[32]⟩ 0 (Lib.countB s ⟨#[32]⟩) s).map bl = Pl.cuts 32 (bl s) := hdat.trans hcut
  generalize Lib.splitB ⟨#[32]⟩ 0 (Lib.countB s ⟨#[32]⟩) s = done at *
  refine ⟨done, by rw [hlen], ?_, hd, (Below.refl _ _).alloc (Nat.le_refl _) _⟩
  have := World.ownsRow_lit (base := w.heap.size) (e := 9) (size := 1) w ((done.map Value.string).toArray) done.length (Nat.le_refl _) (by unfold maxLen; omega) (by simp)
  simpa using this

/-- what readNumbers says -/
def RnPost (w : World) (s : ByteArray) (e : Ending) (w' : World) : Prop :=
  Below w.heap.size w w' ∧ ∃ (v : Value) (ok : Bool) (zs : List Int), e = .returned (.tuple #[v, .bool ok]) ∧ Own w.heap.size w' v zs ∧ ((ok = true ∧ Pl.Reads (bl s) zs) ∨ (ok = false ∧ ∀ zs, ¬ Pl.Reads (bl s) zs))
theorem rn_yes {w w3 : World} {s : ByteArray} {v : Value} {zs : List Int} (hb : Below w.heap.size w w3) (ho : Own w.heap.size w3 v zs) (h : Pl.Reads (bl s) zs) : RnPost w s (.returned (.tuple #[v, .bool true])) w3 := ⟨hb, v, true, zs, rfl, ho, .inl ⟨rfl, h⟩⟩
theorem rn_no {w w3 : World} {s : ByteArray} {v : Value} {zs : List Int} (hb : Below w.heap.size w w3) (ho : Own w.heap.size w3 v zs) (h : ∀ zs, ¬ Pl.Reads (bl s) zs) : RnPost w s (.returned (.tuple #[v, .bool false])) w3 := ⟨hb, v, false, zs, rfl, ho, .inr ⟨rfl, h⟩⟩

/-- the first k are there -/
def upN (zs : List Int) (n : Nat) : List Int := zs ++ List.replicate (n - zs.length) 0
theorem upN_step (zs : List Int) (n k : Nat) (v : Int) (hk : zs.length = k) (h : k < n) : (upN zs n).set k v = upN (zs ++ [v]) n := by
  unfold upN
  rw [List.set_append_right k v (by omega), hk, Nat.sub_self, List.length_append, hk]
  have e : n - k = (n - (k + 1)) + 1 := by omega
  rw [e, List.replicate_succ]
  simp
theorem upN_len (zs : List Int) (n : Nat) (h : zs.length ≤ n) : (upN zs n).length = n := by unfold upN; simp; omega

set_option maxRecDepth 100000 in
set_option maxHeartbeats 4000000 in
/-- impl.readNumbers -/
theorem readNumbers_any (s : ByteArray) (w : World) (hl : s.size ≤ 1048576) (hev : Ev w) : Calls Tryz.prog 26 #[.string s] w (RnPost w s) := by
  by_cases hs : s = ⟨#[]⟩
  · subst hs
    have BR := hideP (Below.refl w.heap.size w)
    clear hev
    go_enter Tryz.func26, Tryz.ntmps26
    go_wp2_with fail
    go_ret2
    exact rn_yes BR.out (Own.nil _ _) (by show _ = _; rfl)
  · have HS : Hid (¬ bl s = []) := fun h => hs (bl_nil.1 h)
    have hq : s.toList.isEmpty = false := by rw [ByteArray.toList_eq, List.isEmpty_eq_false_iff]; exact HS.out
    have HE := hideP hev
    clear hs hev
    obtain ⟨i0, hi, hz0, hz1, hz2⟩ := info_parts Tryz.info3
    go_enter Tryz.func26, Tryz.ntmps26
    go_wp2_with fail
    refine (split_any s _ hl HE.out).mono ?_
    rintro e w1 ⟨done, rfl, ow, hdone, hb1⟩
    have OW := hideP ow
    have B1 := hideP hb1
    have hs1 := (ow.lt _ rfl).2
    have HP := hideP (parts_done (f := Pl.at1) hdone HS.out)
    have HLEN : Hid (∀ x ∈ done, x.size ≤ 1048576) := fun x hx => by
      have h1 : bl x ∈ Pl.cuts 32 (bl s) := by rw [← hdone]; exact List.mem_map_of_mem hx
      have h2 := Pl.cuts_len 32 (bl s) (bl x) h1
      rw [bl_len, bl_len] at h2
      omega
    have hdl : done.length ≤ 1048577 := by
      have := Pl.cuts_count 32 (bl s)
      rw [← hdone, List.length_map, bl_len] at this
      omega
    clear ow hb1 hdone
    obtain ⟨n, hn⟩ : ∃ n, done.length = n := ⟨_, rfl⟩
    have Hn := hideP hn
    rw [hn] at hdl OW ⊢
    clear hn
    go_wp2_with (at_make; refine wpList_make_full _ rfl _ _ 23 rfl w.heap.size 3 i0 (.int .i64 0) 1 Tryz.underlying23 hi hz0 hz1 _ _ _ _ n rfl rfl rfl rfl ?b2 ?b3 ?b4 ?_)
    case b2 => rw [hz2]; omega
    case b3 => unfold maxLen; omega
    case b4 => exact Nat.le_of_lt hs1
    intro w2 hown hgrow
    rw [made_zeros] at hown
    have B2 : Hid (Below w.heap.size w w2) := B1.out.grown hgrow (Nat.le_of_lt hs1) (by intro k h; cases h)
    have W2 : Hid (w2.ownsRow w.heap.size 9 1 (.slice (some ⟨w.heap.size, 0, none⟩) n n) n (done.map Value.string)) := OW.out.kept hgrow (.inr (by simp [Value.ownBlock]))
    have O2 : Hid (w2.ownsRow w.heap.size 3 1 (.slice (some ⟨w1.heap.size, 0, none⟩) n n) n ((upN [] n).map (Value.int .i64))) := hown
    clear hgrow hown hi hz0 hz1 hz2 OW B1
    go_wp2_with fail
    go_loopw [19] (fun i wr => ∃ (k : Nat) (zs : List Int), k ≤ n ∧ i = .int .i64 (k : Int) ∧ Hid (zs.length = k) ∧ Hid (wr.ownsRow w.heap.size 3 1 (.slice (some ⟨w1.heap.size, 0, none⟩) n n) n ((upN zs n).map (Value.int .i64))) ∧ Hid (wr.ownsRow w.heap.size 9 1 (.slice (some ⟨w.heap.size, 0, none⟩) n n) n (done.map Value.string)) ∧ Hid (Below w.heap.size w wr) ∧ Hid ((done.take k).map (fun b => Pl.at1 (bl b)) = zs.map some)) (fun i _ => n - (intOf i).toNat)
    case atStart => exact ⟨0, [], Nat.zero_le _, rfl, rfl, O2, W2, B2, rfl⟩
    case round =>
      obtain ⟨k, zs, hk, rfl, hzl, hO, hW, BB, hM⟩ := hrel
      clear O2 W2 B2
      by_cases hlt : k < n
      · have hlt' : (k : Int) < (n : Int) := by omega
        obtain ⟨x, hx⟩ : ∃ x, done[k]? = some x := ⟨_, List.getElem?_eq_getElem (by rw [Hn.out]; exact hlt)⟩
        have hxl := HLEN.out x (List.mem_of_getElem? hx)
        have HX := hideP hx
        have hc : wr.cell? ⟨w.heap.size, k, none⟩ = some (.string x) := by
          rw [hW.out.cellAt k (by omega), List.getElem?_map, hx]
          rfl
        clear hx
        go_wp2_with fail
        refine (atoi_any x _ hxl (HE.out.keep BB.out)).mono ?_
        rintro e w3 ⟨hb3, hv⟩
        have O3 := hideP (owns_keep hO.out hb3)
        have W3 := hideP (owns_keep hW.out hb3)
        have B3 := hideP (BB.out.trans (hb3.mono BB.out.size))
        clear hb3 hc
        rcases hv with ⟨v, hv, rfl⟩ | ⟨hv, x0, N, rfl⟩
        · have HM : Hid ((done.take (k + 1)).map (fun b => Pl.at1 (bl b)) = (zs ++ [v]).map some) := map_snoc_some hM.out HX.out hv
          have hst := O3.out.stored k (.int .i64 v)
          have hfz := O3.out.frozenAt k
          have hcg : ∃ u, w3.cell? ⟨w1.heap.size, k, none⟩ = some (.int .i64 u) := by
            rw [O3.out.cellAt k (by omega)]
            have hlen : k < (upN zs n).length := by rw [upN_len _ _ (by rw [hzl.out]; omega)]; exact hlt
            exact ⟨(upN zs n)[k], by simp [hlen]⟩
          obtain ⟨u, hcg⟩ := hcg
          have B4 : Hid (Below w.heap.size w (w3.setCell ⟨w1.heap.size, k, none⟩ (.int .i64 v))) := B3.out.setCell (Nat.le_of_lt hs1) _
          have W4 : Hid ((w3.setCell ⟨w1.heap.size, k, none⟩ (.int .i64 v)).ownsRow w.heap.size 9 1 (.slice (some ⟨w.heap.size, 0, none⟩) n n) n (done.map Value.string)) := W3.out.kept hst.2 (.inr (by simp [Value.ownBlock]; omega))
          have O4 : Hid ((w3.setCell ⟨w1.heap.size, k, none⟩ (.int .i64 v)).ownsRow w.heap.size 3 1 (.slice (some ⟨w1.heap.size, 0, none⟩) n n) n ((upN (zs ++ [v]) n).map (Value.int .i64))) := by
            show World.ownsRow _ _ _ _ _ _ _
            rw [← upN_step zs n k v hzl.out hlt, List.map_set]
            exact hst.1
          have HZ : Hid ((zs ++ [v]).length = k + 1) := by show _ = _; rw [List.length_append, hzl.out]; rfl
          clear hst hv
          go_wp2_with fail
          go_roundw
          case rel => exact ⟨k + 1, _, by omega, by go_num, HZ, O4, W4, B4, HM⟩
          case measure => simp [intOf]; omega
        · have HN : Hid (∀ zs, ¬ Pl.Reads (bl s) zs) := fun zs' h => by
            unfold Pl.Reads at h
            rw [HP.out] at h
            exact map_none HX.out hv zs' h
          clear hv
          go_wp2_with fail
          go_ret2
          exact rn_no B3.out (Own.nil _ _) HN.out
      · have hlt' : ¬ (k : Int) < (n : Int) := by omega
        have kn : k = n := by omega
        have HY : Hid (Pl.Reads (bl s) zs) := by
          show Pl.Reads _ _
          unfold Pl.Reads
          have := hM.out
          rw [kn, ← Hn.out, List.take_length] at this
          rw [HP.out, this]
        have HO : Hid (Own w.heap.size wr (.slice (some ⟨w1.heap.size, 0, none⟩) n n) zs) := by
          have h := hO.out
          have e : upN zs n = zs := by unfold upN; rw [hzl.out, kn, Nat.sub_self]; simp
          rw [e] at h
          exact own_of_owns' h (by rw [hzl.out, kn])
        clear kn
        go_wp2_with fail
        go_ret2
        exact rn_yes BB.out HO.out HY.out

end Go.Proofs.YtaopohihipihdaaGreatDoor
