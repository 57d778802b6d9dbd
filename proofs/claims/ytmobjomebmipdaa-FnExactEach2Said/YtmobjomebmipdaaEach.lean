import Derived.Test.YtmobjomebmipdaaCat
namespace Go.Proofs.Ytmobjomebmipdaa
open Go.RowKit
set_option linter.unusedVariables false

namespace Pl
/-- the code of the first cell that has one -/
def firstC (F : Int → Int × Int) : List Int → Int
  | [] => 0
  | x :: xs => if (F x).2 = 0 then firstC F xs else (F x).2
theorem firstC_zero (F : Int → Int × Int) (l : List Int) (h : ∀ x ∈ l, (F x).2 = 0) : firstC F l = 0 := by
  induction l with
  | nil => rfl
  | cons x xs ih => simp only [firstC]; rw [if_pos (h x (by simp))]; exact ih (fun y hy => h y (by simp [hy]))
theorem firstC_at (F : Int → Int × Int) (l : List Int) (k : Nat) (hk : k < l.length) (h : ∀ x ∈ l.take k, (F x).2 = 0) (hc : ¬ (F (l.getD k 0)).2 = 0) : firstC F l = (F (l.getD k 0)).2 := by
  induction l generalizing k with
  | nil => simp at hk
  | cons x xs ih =>
    cases k with
    | zero => simp only [firstC]; rw [if_neg (by simpa using hc)]; simp
    | succ k =>
      simp only [firstC]
      rw [if_pos (h x (by simp))]
      have := ih k (by simpa using hk) (fun y hy => h y (by simp [hy])) (by simpa using hc)
      rw [this]; simp
theorem firstC_ne {F : Int → Int × Int} {l : List Int} (h : ∀ x ∈ l, (F x).2 = 0) : firstC F l = 0 := firstC_zero F l h
/-- the first k done, the rest still 0 -/
def upF (F : Int → Int × Int) (zs : List Int) (k : Nat) : List Int := (zs.take k).map (fun x => (F x).1) ++ List.replicate (zs.length - k) 0
theorem upF_zero (F : Int → Int × Int) (zs : List Int) : upF F zs 0 = List.replicate zs.length 0 := by simp [upF]
theorem upF_all (F : Int → Int × Int) (zs : List Int) (k : Nat) (h : zs.length ≤ k) : upF F zs k = zs.map (fun x => (F x).1) := by
  simp [upF, List.take_of_length_le h, Nat.sub_eq_zero_of_le h]
theorem upF_len (F : Int → Int × Int) (zs : List Int) (k : Nat) (h : k ≤ zs.length) : (upF F zs k).length = zs.length := by simp [upF]; omega
theorem upF_step (F : Int → Int × Int) (zs : List Int) (k : Nat) (h : k < zs.length) : (upF F zs k).set k (F (zs.getD k 0)).1 = upF F zs (k + 1) := by
  unfold upF
  rw [take_snoc zs k h, List.map_append, List.set_append_right k _ (by simp; omega)]
  have e : zs.length - k = (zs.length - (k + 1)) + 1 := by omega
  have e2 : k - ((zs.take k).map (fun x => (F x).1)).length = 0 := by simp; omega
  rw [e2, e, List.replicate_succ]
  simp
end Pl

/-- what a function of cells does: a number, or a code -/
def CPost (W : World) (r : Int × Int) (e : Ending) (w' : World) : Prop :=
  Below W.heap.size W w' ∧ ((r.2 = 0 ∧ e = .returned (.int .i64 r.1)) ∨ (¬ r.2 = 0 ∧ e = .panicked [thrown r.2]))

theorem apart_left {B : Nat} {w : World} {u0 u1 : Value} {sh da : List Int} (h : Own B w u0 sh) (h1 : ∀ b, u1.ownBlock = some b → b < B) : Apart u0 u1 sh da := by
  obtain ⟨ao, cap, rfl, h⟩ := h
  rcases h with h | ⟨g, off, hB, _, rfl, _⟩
  · exact .inl h
  · refine .inr (.inr fun b e0 e1 => ?_)
    have := h1 b e1
    simp [Value.ownBlock] at e0
    omega

theorem owns_below {base : Nat} {w w' : World} {B g n cap : Nat} {xs : List Value} (h : w.ownsRow base 3 1 (.slice (some ⟨g, 0, none⟩) n cap) n xs) (hb : Below B w w') (hg : g < B) : w'.ownsRow base 3 1 (.slice (some ⟨g, 0, none⟩) n cap) n xs := by
  obtain ⟨h1, h2⟩ := h
  refine ⟨h1, ?_⟩
  rcases h2 with h2 | ⟨g', cp, cur, hv, hg', hh, r⟩
  · exact .inl h2
  · simp only [Value.slice.injEq, Option.some.injEq, Addr.mk.injEq, and_true, true_and] at hv
    obtain ⟨rfl, rfl⟩ := hv
    exact .inr ⟨g, cap, cur, rfl, hg', (hb.block g hg).trans hh, r⟩

set_option maxRecDepth 100000 in
set_option maxHeartbeats 2000000 in
/-- impl.each1 of an array with cells -/
theorem each1_core (f : Nat) (cap : Array Value) (F : Int → Int × Int) (v0 : Value) (ao : Option Addr) (b off c1 : Nat) (sh da : List Int) (w : World) (hao : 0 < da.length → ao = some ⟨b, off, none⟩) (hl0 : sh.length ≤ 1048576) (hl1 : da.length ≤ 1048576) (h0 : Rd w.heap.size w v0 sh) (hb : 0 < da.length → b < w.heap.size)
    (hc : ∀ i, i < da.length → w.cell? ⟨b, off + i, none⟩ = some (.int .i64 (da.getD i 0))) (hcf : ∀ args w, (callFunc f args).run Try.prog w = .ok (.enter f args) w)
    (hone : ∀ x ∈ da, ∀ w', Below w.heap.size w w' → Calls Try.prog f (#[.int .i64 x] ++ cap) w' (CPost w' (F x))) :
    Calls Try.prog 45 #[.func (.func f) #[] cap, .agg #[v0, .slice ao da.length c1]] w
      (KPost w (Pl.firstC F da) (if Pl.firstC F da = 0 then sh else []) (if Pl.firstC F da = 0 then da.map (fun x => (F x).1) else [])) := by
  obtain ⟨i0, hi, hz0, hz1, hz2⟩ := info_parts Try.info3
  obtain ⟨a0, d0, e0⟩ := h0.form
  have H0 := hideP h0
  have HO := hideP hone
  have HC := hideP hc
  have HAO := hideP hao
  have HBB := hideP hb
  clear h0 hone hc hao hb
  subst e0
  generalize hn : da.length = n at *
  have Hn : Hid (da.length = n) := hn
  clear hn
  go_enter Try.func45, Try.ntmps45
  go_wp2_with (at_make; refine wpList_make_full _ rfl _ _ 22 rfl (w.heap.size + 1 + 1) 3 i0 (.int .i64 0) 1 Try.underlying22 hi hz0 hz1 _ _ _ _ n rfl rfl rfl rfl ?b2 ?b3 ?b4 ?_)
  case b2 => rw [hz2]; omega
  case b3 => unfold maxLen; omega
  case b4 => simp
  intro w1 hown hgrow
  rw [made_zeros] at hown
  have hb1 : Below (w.heap.size + 1 + 1) ((w.alloc (.cells #[.slice a0 sh.length d0, .slice ao n c1] 27)).alloc (.cells #[.slice none 0 0, .slice none 0 0] 27)) w1 := by
    exact (Below.refl _ _).grown hgrow (by simp) (by intro k h; cases h)
  have hW : Below w.heap.size w ((w.alloc (.cells #[.slice a0 sh.length d0, .slice ao n c1] 27)).alloc (.cells #[.slice none 0 0, .slice none 0 0] 27)) := ((Below.refl _ _).alloc (Nat.le_refl _) _).alloc (by simp) _
  have CW0 : ((w.alloc (.cells #[.slice a0 sh.length d0, .slice ao n c1] 27)).alloc (.cells #[.slice none 0 0, .slice none 0 0] 27)).cell? ⟨w.heap.size, 0, none⟩ = some (.slice a0 sh.length d0) := by simp [go_sem]
  have CW1 : ((w.alloc (.cells #[.slice a0 sh.length d0, .slice ao n c1] 27)).alloc (.cells #[.slice none 0 0, .slice none 0 0] 27)).cell? ⟨w.heap.size, 1, none⟩ = some (.slice ao n c1) := by simp [go_sem]
  have CW2 : ((w.alloc (.cells #[.slice a0 sh.length d0, .slice ao n c1] 27)).alloc (.cells #[.slice none 0 0, .slice none 0 0] 27)).cell? ⟨w.heap.size + 1, 0, none⟩ = some (.slice none 0 0) := by simp [go_sem]
  have CW3 : ((w.alloc (.cells #[.slice a0 sh.length d0, .slice ao n c1] 27)).alloc (.cells #[.slice none 0 0, .slice none 0 0] 27)).cell? ⟨w.heap.size + 1, 1, none⟩ = some (.slice none 0 0) := by simp [go_sem]
  have FW : ∀ o, ((w.alloc (.cells #[.slice a0 sh.length d0, .slice ao n c1] 27)).alloc (.cells #[.slice none 0 0, .slice none 0 0] 27)).frozen? ⟨w.heap.size + 1, o, none⟩ = false := fun o => by simp [go_sem]
  have SW : ((w.alloc (.cells #[.slice a0 sh.length d0, .slice ao n c1] 27)).alloc (.cells #[.slice none 0 0, .slice none 0 0] 27)).heap.size = w.heap.size + 1 + 1 := by simp
  generalize ((w.alloc (.cells #[.slice a0 sh.length d0, .slice ao n c1] 27)).alloc (.cells #[.slice none 0 0, .slice none 0 0] 27)) = W at *
  have HW := hideP hW
  have HCW := hideP (And.intro CW0 (And.intro CW1 (And.intro CW2 (And.intro CW3 (And.intro FW SW)))))
  have HO1 := hideP hown
  have HB1 := hideP hb1
  have c1' : w1.cell? ⟨w.heap.size, 1, none⟩ = some (.slice ao n c1) := (hb1.cell (p := ⟨w.heap.size, 1, none⟩) (by show w.heap.size < _; omega)).trans CW1
  clear hW CW0 CW1 CW2 CW3 FW SW hown hb1 hgrow hi hz0 hz1 hz2
  go_wp2_with fail
  go_loopw [6, 7, 15] (fun _ _ i wr => ∃ k : Nat, k ≤ n ∧ i = .int .i64 k ∧ Hid (∀ x ∈ da.take k, (F x).2 = 0) ∧ Hid (wr.ownsRow (w.heap.size + 1 + 1) 3 1 (.slice (some ⟨w.heap.size + 1 + 1, 0, none⟩) n n) n ((Pl.upF F da k).map (Value.int .i64))) ∧ Hid (Below (w.heap.size + 1 + 1) W wr)) (fun _ _ i _ => n - (intOf i).toNat)
  case atStart => exact ⟨0, Nat.zero_le _, rfl, by intro x hx; simp at hx, by show World.ownsRow _ _ _ _ _ _ _; rw [Pl.upF_zero, Hn.out]; exact HO1.out, HB1⟩
  case round =>
    clear c1' HO1 HB1
    obtain ⟨k, hk, rfl, hz, ho, hbel⟩ := hrel
    have HBW : Hid (Below w.heap.size w wr) := HW.out.trans (hbel.out.mono (by omega))
    have HSZ : Hid (w.heap.size + 1 + 1 < wr.heap.size) := (ho.out.lt _ rfl).2
    by_cases hlt : k < n
    · have hao := HAO.out (by omega)
      have hb := HBB.out (by omega)
      clear HAO HBB
      subst hao
      have hck : wr.cell? ⟨b, off + k, none⟩ = some (.int .i64 (da.getD k 0)) := (HBW.out.cell (p := ⟨b, off + k, none⟩) hb).trans (HC.out k hlt)
      have hlen : k < da.length := by rw [Hn.out]; exact hlt
      have hmem : da.getD k 0 ∈ da := by
        have : da.getD k 0 = da[k] := by simp [List.getD, hlen]
        rw [this]; exact List.getElem_mem hlen
      have K := hideP (HO.out _ hmem wr HBW.out)
      have T : Hid (da.take (k + 1) = da.take k ++ [da.getD k 0]) := Pl.take_snoc da k hlen
      have U : Hid ((Pl.upF F da k).set k (F (da.getD k 0)).1 = Pl.upF F da (k + 1)) := Pl.upF_step F da k hlen
      have FA : Hid (¬ (F (da.getD k 0)).2 = 0 → Pl.firstC F da = (F (da.getD k 0)).2) := Pl.firstC_at F da k hlen hz.out
      clear hmem hlen
      generalize da.getD k 0 = x at *
      go_wp2_with fail
      refine K.out.mono ?_
      rintro e w2 ⟨hb2, hor⟩
      have HB2 := hideP (hbel.out.trans (hb2.mono (by have := HSZ.out; omega)))
      have ho2 := owns_keep ho.out hb2
      have HBW2 := hideP (HBW.out.trans (hb2.mono (by have := HSZ.out; omega)))
      clear hb2 K hck
      rcases hor with ⟨hr, rfl⟩ | ⟨hr, rfl⟩
      · have hfz := ho2.frozenAt k
        have hst := ho2.stored k (.int .i64 (F x).1)
        have hcg : ∃ u, w2.cell? ⟨w.heap.size + 1 + 1, k, none⟩ = some (.int .i64 u) := by
          rw [ho2.cellAt k (by omega)]
          have hlen : k < (Pl.upF F da k).length := by rw [Pl.upF_len F da k (by rw [Hn.out]; omega), Hn.out]; exact hlt
          exact ⟨(Pl.upF F da k)[k], by simp [hlen]⟩
        obtain ⟨u, hcg⟩ := hcg
        have R : Hid ((w2.setCell ⟨w.heap.size + 1 + 1, k, none⟩ (.int .i64 (F x).1)).ownsRow (w.heap.size + 1 + 1) 3 1 (.slice (some ⟨w.heap.size + 1 + 1, 0, none⟩) n n) n ((Pl.upF F da (k + 1)).map (Value.int .i64))) := by
          show World.ownsRow _ _ _ _ _ _ _
          rw [← U.out, List.map_set]
          exact hst.1
        have HB3 : Hid (Below (w.heap.size + 1 + 1) W (w2.setCell ⟨w.heap.size + 1 + 1, k, none⟩ (.int .i64 (F x).1))) := HB2.out.setCell (Nat.le_refl _) _
        have Z : Hid (∀ y ∈ da.take (k + 1), (F y).2 = 0) := by
          intro y hy
          rw [T.out] at hy
          simp at hy
          rcases hy with hy | rfl
          · exact hz.out y hy
          · exact hr
        clear hst ho2
        generalize (F x).1 = r at *
        go_wp2_with fail
        go_roundw
        case rel => exact ⟨k + 1, by omega, by go_num, Z, R, HB3⟩
        case measure => simp [intOf]; omega
      · have E := FA.out hr
        refine ⟨rfl, HBW2.out, .inr ⟨by rw [E]; exact hr, by rw [E, if_neg hr], by rw [E, if_neg hr], by rw [E]⟩⟩
    · have kn : k = n := by omega
      subst kn
      have E : Pl.firstC F da = 0 := Pl.firstC_zero F da (by
        have := hz.out
        rw [List.take_of_length_le (by rw [Hn.out]; exact Nat.le_refl _)] at this
        exact this)
      have HE := hideP E
      have OD : Hid (wr.ownsRow (w.heap.size + 1 + 1) 3 1 (.slice (some ⟨w.heap.size + 1 + 1, 0, none⟩) k k) k ((da.map (fun x => (F x).1)).map (Value.int .i64))) := by
        have := ho.out
        rw [Pl.upF_all F da k (by rw [Hn.out]; exact Nat.le_refl _)] at this
        exact this
      have c0 : wr.cell? ⟨w.heap.size, 0, none⟩ = some (.slice a0 sh.length d0) := (hbel.out.cell (p := ⟨w.heap.size, 0, none⟩) (by show w.heap.size < _; omega)).trans HCW.out.1
      have RD := hideP ((H0.out.keep HBW.out).up (Nat.le_of_lt (by have := HSZ.out; omega : w.heap.size < wr.heap.size)))
      clear E
      go_wp2_with fail
      have A : Hid (∀ o, Below wr.heap.size wr (wr.alloc o)) := fun o => (Below.refl _ _).alloc (Nat.le_refl _) _
      refine (joined1 wr.heap.size (.slice a0 sh.length d0) sh _ hl0 (by simp) (by simp [go_sem]) ((RD.out.keep (A.out _)).up (by simp))).mono ?_
      rintro e w2 ⟨v, rfl, hv, hb2⟩
      have hb2' : Below wr.heap.size wr w2 := (A.out _).trans (hb2.mono (by simp))
      have hsz2 := hb2'.size
      have HV := hideP hv
      obtain ⟨a2, d2, e2⟩ := hv.form
      subst e2
      have k0 := hbel.out.trans (hb2'.mono (Nat.le_of_lt HSZ.out))
      have C2 : w2.cell? ⟨w.heap.size + 1, 0, none⟩ = some (.slice none 0 0) := (k0.cell (p := ⟨w.heap.size + 1, 0, none⟩) (by show w.heap.size + 1 < _; omega)).trans HCW.out.2.2.1
      have C3 : w2.cell? ⟨w.heap.size + 1, 1, none⟩ = some (.slice none 0 0) := (k0.cell (p := ⟨w.heap.size + 1, 1, none⟩) (by show w.heap.size + 1 < _; omega)).trans HCW.out.2.2.2.1
      have F2 : ∀ o, w2.frozen? ⟨w.heap.size + 1, o, none⟩ = false := fun o => (k0.frozen (p := ⟨w.heap.size + 1, o, none⟩) (by show w.heap.size + 1 < _; omega)).trans (HCW.out.2.2.2.2.1 o)
      have HB2 := hideP (HBW.out.trans (hb2'.mono (Nat.le_of_lt (by have := HSZ.out; omega))))
      have OD2 := hideP (owns_keep OD.out hb2')
      clear hb2 hb2' k0 hv c0
      go_wp2_with fail
      refine bodyPost_ret (v := .agg #[.slice a2 sh.length d2, .slice (some ⟨w.heap.size + 1 + 1, 0, none⟩) k k]) (by simp [results, Try.results45, go_sem, C2, C3]) rfl ⟨?_, .inl ⟨by first | rfl | exact HE.out, _, _, rfl, ?_, ?_, ?_⟩⟩
      · exact (HB2.out.setCell (by simp) _).setCell (by simp) _
      · try rw [if_pos HE.out]
        refine Own.base (B := wr.heap.size + 1) ?_ (by have := HSZ.out; omega)
        refine Own.store (Own.store ?_ (by have := HSZ.out; omega) _) (by have := HSZ.out; omega) _
        have := HV.out
        simpa using this
      · try rw [if_pos HE.out]
        have hlen : (da.map (fun x => (F x).1)).length = k := by rw [List.length_map]; exact Hn.out
        refine Own.base (B := w.heap.size + 1 + 1) ?_ (by omega)
        exact Own.store (Own.store (own_of_owns OD2.out hlen) (by omega) _) (by omega) _
      · try rw [if_pos HE.out, if_pos HE.out]
        refine apart_left (B := wr.heap.size + 1) (w := w2) ?_ ?_
        · have := HV.out
          simpa using this
        · intro b hb
          simp [Value.ownBlock] at hb
          have := HSZ.out
          omega

end Go.Proofs.Ytmobjomebmipdaa
