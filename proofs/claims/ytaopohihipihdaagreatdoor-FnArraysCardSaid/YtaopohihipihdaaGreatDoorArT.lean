import Derived.Test.YtaopohihipihdaaGreatDoorRn
import Derived.Laws.ResultCell
import Derived.Test.YtaopohihipihdaaGreatDoorSpec1b
namespace Go.Proofs.YtaopohihipihdaaGreatDoor
open Go.RowKit
set_option linter.unusedVariables false

theorem fp_no {w w' : World} {t : List UInt8} (hb : Below w.heap.size w w') (h : Pl.parC t = 1 ∧ Pl.parS t = [] ∧ Pl.parD t = []) : FPost w (Pl.parC t) (Pl.parS t) (Pl.parD t) (.returned (.tuple #[.agg #[.slice none 0 0, .slice none 0 0], .int .i64 1])) w' := by
  rw [h.1, h.2.1, h.2.2]
  exact ⟨hb, _, _, rfl, Own.nil _ _, Own.nil _ _, .inl rfl⟩
theorem fp_yes {w w' : World} {t : List UInt8} {sh da : List Int} {u0 u1 : Value} (hb : Below w.heap.size w w') (h : Pl.parC t = 0 ∧ Pl.parS t = sh ∧ Pl.parD t = da) (hr : Res w.heap.size w' u0 u1 sh da) : FPost w (Pl.parC t) (Pl.parS t) (Pl.parD t) (.returned (.tuple #[.agg #[u0, u1], .int .i64 0])) w' := by
  rw [h.1, h.2.1, h.2.2]
  exact ⟨hb, _, _, rfl, hr⟩

/-- the answer's variable, not yet filled -/
def Sl (N : Nat) (w : World) : Prop := N < w.heap.size ∧ w.cell? ⟨N, 0, none⟩ = some (.slice none 0 0) ∧ w.cell? ⟨N, 1, none⟩ = some (.slice none 0 0) ∧ ∀ o, w.frozen? ⟨N, o, none⟩ = false
theorem Sl.keep {N : Nat} {w w' : World} (h : Sl N w) (hb : Below w.heap.size w w') : Sl N w' :=
  ⟨Nat.lt_of_lt_of_le h.1 hb.size, (hb.cell (p := ⟨N, 0, none⟩) h.1).trans h.2.1, (hb.cell (p := ⟨N, 1, none⟩) h.1).trans h.2.2.1, fun o => (hb.frozen (p := ⟨N, o, none⟩) h.1).trans (h.2.2.2 o)⟩
theorem Sl.new (w : World) (t : TypeId) : Sl w.heap.size (w.alloc (.cells #[.slice none 0 0, .slice none 0 0] t)) := ⟨by simp, by simp [go_sem], by simp [go_sem], fun o => by simp [go_sem]⟩

theorem apart_of {B : Nat} {w w' : World} {u0 u1 : Value} {sh da : List Int} (h0 : Own B w u0 sh) (h1 : Own w.heap.size w' u1 da) : Apart u0 u1 sh da := by
  obtain ⟨ao, c0, rfl, h0⟩ := h0
  obtain ⟨a1, c1, rfl, h1⟩ := h1
  rcases h0 with h0 | ⟨g, off, _, hg, rfl, _⟩
  · exact .inl h0
  · rcases h1 with h1 | ⟨g1, off1, hg1, _, rfl, _⟩
    · exact .inr (.inl h1)
    · refine .inr (.inr fun b e0 e1 => ?_)
      simp [Value.ownBlock] at e0 e1
      omega

/-- an answer in the answer's variable -/
theorem filled {N : Nat} {w : World} {u0 u1 : Value} {sh da : List Int} (h : Res (N + 1) w u0 u1 sh da) (hs : Sl N w) : Res N ((w.setCell ⟨N, 0, none⟩ u0).setCell ⟨N, 1, none⟩ u1) u0 u1 sh da :=
  ⟨((h.1.store (by omega) _).store (by omega) _).base (by omega), ((h.2.1.store (by omega) _).store (by omega) _).base (by omega), h.2.2⟩

theorem parts_len (t : List UInt8) (h : t.length ≤ 20000) : (Pl.parts t).length ≤ 1048576 := by
  unfold Pl.parts
  split
  · simp
  · have := Pl.cuts_count 32 t
    omega

end Go.Proofs.YtaopohihipihdaaGreatDoor

namespace Go.Proofs.YtaopohihipihdaaGreatDoor
open Go.RowKit
set_option linter.unusedVariables false

theorem reads_len {t : List UInt8} {zs : List Int} (h : Pl.Reads t zs) (hl : t.length ≤ 20000) : zs.length ≤ 1048576 := by
  have e := congrArg List.length h
  simp only [List.length_map] at e
  rw [← e]
  exact parts_len _ hl

/-- strings.Cut at a colon -/
theorem cut_any (s : ByteArray) (w : World) (hl : s.size ≤ 1048576) (he : Ev w) :
    Calls Tryz.prog 25 #[.string s, .string ⟨#[58]⟩] w fun e w' => ∃ (p q : ByteArray) (f : Bool), e = .returned (.tuple #[.string p, .string q, .bool f]) ∧ Lib.cut (bl s) [58] = (bl p, bl q, f) ∧ p.size ≤ s.size ∧ q.size ≤ s.size ∧ Below w.heap.size w w' := by
  obtain ⟨_, ⟨m, hm⟩, _⟩ := he
  refine (Tryz.strings_Cut s ⟨#[58]⟩ m w (by omega) hm).mono ?_
  rintro e w' ⟨rfl, n, rfl⟩
  refine ⟨_, _, _, rfl, rfl, ?_, ?_, below_drewN (Below.refl _ _) _⟩
  · show (Lib.cut s.data.toList [58]).1.toArray.size ≤ s.size
    rw [List.size_toArray, ← bl_len]
    unfold Lib.cut
    split
    · exact List.length_take_le' _ _
    · exact Nat.le_refl _
  · show (Lib.cut s.data.toList [58]).2.1.toArray.size ≤ s.size
    rw [List.size_toArray, ← bl_len]
    unfold Lib.cut
    split
    · rw [List.length_drop]; exact Nat.sub_le _ _
    · simp

theorem txt_wr {s : ByteArray} {sh da : List Int} (hok : Pl.okB sh da = true) (h : Pl.txt sh da = s) : Pl.Wr (bl s) sh da := by
  refine ⟨hok, ?_⟩
  rw [← h]
  unfold Pl.txt
  rw [if_pos hok]
  show _ = (_ ++ _ ++ _ : ByteArray).data.toList
  simp
theorem wr_txt {s : ByteArray} {sh da : List Int} (h : Pl.Wr (bl s) sh da) : Pl.txt sh da = s := by
  unfold Pl.txt
  rw [if_pos h.1]
  apply ByteArray.ext
  apply Array.toList_inj.1
  have := h.2
  show (_ ++ _ ++ _ : ByteArray).data.toList = bl s
  rw [← this]
  simp

set_option maxRecDepth 100000 in
set_option maxHeartbeats 4000000 in
/-- impl.ParseArray -/
theorem implParse_any (s : ByteArray) (w : World) (hl : s.size ≤ 1048576) (hev : Ev w) : Calls Tryz.prog 9 #[.string s] w (FPost w (Pl.parC (bl s)) (Pl.parS (bl s)) (Pl.parD (bl s))) := by
  have BA : Hid (Below w.heap.size w (w.alloc (.cells #[.slice none 0 0, .slice none 0 0] 25))) := (Below.refl _ _).alloc (Nat.le_refl _) _
  have SA := hideP (Sl.new w 25)
  have HE := hideP hev
  clear hev
  by_cases hlong : 20000 < s.size
  · have hlong' : (20000 : Int) < (s.size : Int) := by omega
    have HNo := hideP (Pl.par_no (t := bl s) (fun h => by rw [bl_len] at h; omega))
    go_enter Tryz.func9, Tryz.ntmps9
    go_wp2_with fail
    refine bodyPost_ret (v := .tuple #[.agg #[.slice none 0 0, .slice none 0 0], .int .i64 1]) (by simp [results, Tryz.results9, go_sem]) rfl (fp_no BA.out HNo.out)
  · have hlong' : ¬ (20000 : Int) < (s.size : Int) := by omega
    have hlen : Hid ((bl s).length ≤ 20000) := by show _ ≤ _; rw [bl_len]; omega
    go_enter Tryz.func9, Tryz.ntmps9
    go_wp2_with fail
    refine (cut_any s _ hl (HE.out.keep BA.out)).mono ?_
    rintro e w1 ⟨p, q, f, rfl, hcut, hp, hq, hb1⟩
    have B1 := hideP (BA.out.trans (hb1.mono (by simp)))
    have S1 := hideP (SA.out.keep hb1)
    have HC := hideP hcut
    clear hb1 hcut BA SA
    have hp' : p.size ≤ 20000 := by omega
    have hq' : q.size ≤ 20000 := by omega
    clear hp hq
    go_wp2_with fail
    refine (readNumbers_any p _ (by omega) (HE.out.keep B1.out)).mono ?_
    rintro e w2 ⟨hb2, v0, ok0, sh, rfl, own0, hn0⟩
    have B2 := hideP (B1.out.trans (hb2.mono B1.out.size))
    have S2 := hideP (S1.out.keep hb2)
    have O2 := hideP (own0.base (show w.heap.size + 1 ≤ w1.heap.size from S1.out.1))
    have H0 := hideP hn0
    obtain ⟨a0, d0, e0⟩ := own0.form
    subst e0
    clear hb2 own0 hn0
    go_wp2_with fail
    refine (readNumbers_any q _ (by omega) (HE.out.keep B2.out)).mono ?_
    rintro e w3 ⟨hb3, v1, ok1, da, rfl, own1, hn1⟩
    have B3 := hideP (B2.out.trans (hb3.mono B2.out.size))
    have S3 := hideP (S2.out.keep hb3)
    have R3 : Hid (Res (w.heap.size + 1) w3 (.slice a0 sh.length d0) v1 sh da) := ⟨O2.out.keep hb3, own1.base S2.out.1, apart_of O2.out own1⟩
    have H1 := hideP hn1
    obtain ⟨a1, d1, e1⟩ := own1.form
    subst e1
    clear hb3 own1 O2 hn1 S1 S2 B1 B2
    cases ok0 with
    | false =>
      have HNo := hideP (Pl.par_no (t := bl s) (fun _ sh' da' hw => by
        rcases H0.out with ⟨h, _⟩ | ⟨_, h⟩
        · cases h
        · have e := HC.out.symm.trans (Pl.wr_cut hw)
          simp only [Prod.mk.injEq] at e
          rw [e.1] at h
          exact h _ (Pl.wr_reads hw).1))
      have BR := hideP ((B3.out.setCell (p := ⟨w.heap.size, 0, none⟩) (Nat.le_refl _) (.slice none 0 0)).setCell (p := ⟨w.heap.size, 1, none⟩) (Nat.le_refl _) (.slice none 0 0))
      obtain ⟨_, s0, s1, sf⟩ := S3.out
      go_wp2_with fail
      refine bodyPost_ret (v := .tuple #[.agg #[.slice none 0 0, .slice none 0 0], .int .i64 1]) (by simp [results, Tryz.results9, go_sem, s0, s1]) rfl (fp_no BR.out HNo.out)
    | true =>
      cases ok1 with
      | false =>
        have HNo := hideP (Pl.par_no (t := bl s) (fun _ sh' da' hw => by
          rcases H1.out with ⟨h, _⟩ | ⟨_, h⟩
          · cases h
          · have e := HC.out.symm.trans (Pl.wr_cut hw)
            simp only [Prod.mk.injEq] at e
            rw [e.2.1] at h
            exact h _ (Pl.wr_reads hw).2))
        have BR := hideP ((B3.out.setCell (p := ⟨w.heap.size, 0, none⟩) (Nat.le_refl _) (.slice none 0 0)).setCell (p := ⟨w.heap.size, 1, none⟩) (Nat.le_refl _) (.slice none 0 0))
        obtain ⟨_, s0, s1, sf⟩ := S3.out
        go_wp2_with fail
        refine bodyPost_ret (v := .tuple #[.agg #[.slice none 0 0, .slice none 0 0], .int .i64 1]) (by simp [results, Tryz.results9, go_sem, s0, s1]) rfl (fp_no BR.out HNo.out)
      | true =>
        have N0 : Hid (Pl.Reads (bl p) sh) := by
          rcases H0.out with ⟨_, h⟩ | ⟨h, _⟩
          · exact h
          · cases h
        have N1 : Hid (Pl.Reads (bl q) da) := by
          rcases H1.out with ⟨_, h⟩ | ⟨h, _⟩
          · exact h
          · cases h
        have L0 : sh.length ≤ 1048576 := reads_len N0.out (by rw [bl_len]; exact hp')
        have L1 : da.length ≤ 1048576 := reads_len N1.out (by rw [bl_len]; exact hq')
        have AL : Hid (Below w3.heap.size w3 (w3.alloc (.cells #[.slice a0 sh.length d0, .slice a1 da.length d1] 25))) := (Below.refl _ _).alloc (Nat.le_refl _) _
        have B4 := hideP (B3.out.trans (AL.out.mono B3.out.size))
        have S4 := hideP (S3.out.keep AL.out)
        have R4 := hideP (R3.out.keep AL.out)
        have X4 := hideP (Box.new w3 (.slice a0 sh.length d0) (.slice a1 da.length d1) 25)
        have T4 := hideP (HE.out.keep B4.out).tab
        -- a text that is an array's is this array's
        have HU : Hid (∀ sh' da', Pl.Wr (bl s) sh' da' → sh' = sh ∧ da' = da) := fun sh' da' hw => by
          have e := HC.out.symm.trans (Pl.wr_cut hw)
          simp only [Prod.mk.injEq] at e
          have n0 := N0.out
          have n1 := N1.out
          rw [e.1] at n0
          rw [e.2.1] at n1
          exact ⟨Pl.reads_fun (Pl.wr_reads hw).1 n0, Pl.reads_fun (Pl.wr_reads hw).2 n1⟩
        clear AL H0 H1 HC
        go_wp2_with fail
        refine (implText_any _ _ sh da _ L0 L1 T4.out R4.out.1.rd R4.out.2.1.rd).mono ?_
        rintro e w5 ⟨rfl, hb5⟩
        have B5 := hideP (B4.out.trans (hb5.mono B4.out.size))
        have S5 := hideP (S4.out.keep hb5)
        have R5 := hideP (R4.out.keep hb5)
        have X5 := hideP (X4.out.keep hb5)
        clear hb5 X4 S4 R4 B4 R3 S3 B3
        have BR := hideP ((B5.out.setCell (p := ⟨w.heap.size, 0, none⟩) (Nat.le_refl _) (.slice none 0 0)).setCell (p := ⟨w.heap.size, 1, none⟩) (Nat.le_refl _) (.slice none 0 0))
        by_cases hok : Pl.okB sh da = true
        · by_cases ht : Pl.txt sh da = s
          · have HY := hideP (Pl.par_yes hlen.out (txt_wr hok ht))
            have hq2 : ((Pl.txt sh da).toList == s.toList) = true := by rw [ba_eq]; exact decide_eq_true ht
            rw [hok]
            have BY := hideP ((B5.out.setCell (p := ⟨w.heap.size, 0, none⟩) (Nat.le_refl _) (.slice a0 sh.length d0)).setCell (p := ⟨w.heap.size, 1, none⟩) (Nat.le_refl _) (.slice a1 da.length d1))
            have RR := hideP (filled R5.out S5.out)
            obtain ⟨_, s0, s1, sf⟩ := S5.out
            obtain ⟨_, x0, x1⟩ := X5.out
            clear hok ht
            generalize Pl.txt sh da = tx at *
            go_wp2_with fail
            refine bodyPost_ret (v := .tuple #[.agg #[.slice a0 sh.length d0, .slice a1 da.length d1], .int .i64 0]) (by simp [results, Tryz.results9, go_sem, s0, s1]) rfl (fp_yes BY.out HY.out RR.out)
          · have hq2 : ((Pl.txt sh da).toList == s.toList) = false := by rw [ba_eq]; exact decide_eq_false ht
            have HNo := hideP (Pl.par_no (t := bl s) (fun _ sh' da' hw => by
              obtain ⟨e1, e2⟩ := HU.out sh' da' hw
              rw [e1, e2] at hw
              exact ht (wr_txt hw)))
            rw [hok]
            obtain ⟨_, s0, s1, sf⟩ := S5.out
            obtain ⟨_, x0, x1⟩ := X5.out
            clear hok ht
            generalize Pl.txt sh da = tx at *
            go_wp2_with fail
            refine bodyPost_ret (v := .tuple #[.agg #[.slice none 0 0, .slice none 0 0], .int .i64 1]) (by simp [results, Tryz.results9, go_sem, s0, s1]) rfl (fp_no BR.out HNo.out)
        · have hok' : Pl.okB sh da = false := by simpa using hok
          have HNo := hideP (Pl.par_no (t := bl s) (fun _ sh' da' hw => by
            obtain ⟨e1, e2⟩ := HU.out sh' da' hw
            rw [e1, e2] at hw
            exact hok hw.1))
          rw [hok']
          obtain ⟨_, s0, s1, sf⟩ := S5.out
          obtain ⟨_, x0, x1⟩ := X5.out
          clear hok hok'
          generalize Pl.txt sh da = tx at *
          go_wp2_with fail
          refine bodyPost_ret (v := .tuple #[.agg #[.slice none 0 0, .slice none 0 0], .int .i64 1]) (by simp [results, Tryz.results9, go_sem, s0, s1]) rfl (fp_no BR.out HNo.out)

end Go.Proofs.YtaopohihipihdaaGreatDoor

namespace Go.Proofs.YtaopohihipihdaaGreatDoor
open Go.RowKit
set_option linter.unusedVariables false

namespace Pl
theorem dec_len (k : Nat) : ∀ u, u < 10 ^ (k + 1) → (Lib.decDigits u).length ≤ k + 1 := by
  induction k with
  | zero =>
    intro u hu
    rw [Lib.decDigits, dif_pos (by simpa using hu)]
    simp
  | succ k ih =>
    intro u hu
    rw [Lib.decDigits]
    split
    · simp
    · have := ih (u / 10) (by rw [Nat.pow_succ] at hu; omega)
      rw [List.length_append]
      simp
      omega
theorem itoa_short (x : Int) (h0 : -3000000000 ≤ x) (h1 : x ≤ 3000000000) : (Lib.itoa x).length ≤ 11 := by
  unfold Lib.itoa
  split
  · have := dec_len 9 x.natAbs (by omega)
    rw [List.length_cons]
    omega
  · have := dec_len 9 x.toNat (by omega)
    omega
theorem jn_short (l : List Int) (h : ∀ x ∈ l, -3000000000 ≤ x ∧ x ≤ 3000000000) : (jn l).length ≤ 12 * l.length := by
  have key : ∀ r : List Int, (∀ x ∈ r, -3000000000 ≤ x ∧ x ≤ 3000000000) → (Lib.joinTail [32] (r.map Lib.itoa)).length ≤ 12 * r.length := by
    intro r
    induction r with
    | nil => intro _; simp [Lib.joinTail]
    | cons y r ih =>
      intro hr
      have h1 := ih (fun x hx => hr x (List.mem_cons_of_mem _ hx))
      have h2 := hr y (List.mem_cons_self ..)
      have h3 := itoa_short y h2.1 h2.2
      simp only [Lib.joinTail, List.map_cons, List.flatten_cons, List.length_append, List.length_cons, List.length_nil] at h1 ⊢
      omega
  match l, h with
  | [], _ => simp [jn_nil]
  | y :: r, h =>
    unfold jn
    rw [List.map_cons, Lib.join_cons, List.length_append]
    have h1 := key r (fun x hx => h x (List.mem_cons_of_mem _ hx))
    have h2 := h y (List.mem_cons_self ..)
    have h3 := itoa_short y h2.1 h2.2
    simp only [List.length_cons]
    omega
end Pl

/-- the text of an array reads as the array -/
theorem par_txt {sh da : List Int} (ok : Pl.okB sh da = true) : Pl.parC (bl (Pl.txt sh da)) = 0 ∧ Pl.parS (bl (Pl.txt sh da)) = sh ∧ Pl.parD (bl (Pl.txt sh da)) = da ∧ (Pl.txt sh da).size ≤ 20000 := by
  have hw := txt_wr ok rfl
  obtain ⟨l0, x0⟩ := Pl.ok_sh ok
  obtain ⟨l1, _⟩ := Pl.ok_da ok
  have s0 := Pl.jn_short sh (fun x hx => by
    have h := ok
    simp only [Pl.okB, Pl.fitsB, Pl.baseB, Bool.and_eq_true, decide_eq_true_eq, List.all_eq_true] at h
    have := Pl.inR_bd (h.1.1.1.2 x hx)
    omega)
  have s1 := Pl.jn_short da (fun x hx => Pl.ok_cell ok hx)
  have hlen : (bl (Pl.txt sh da)).length ≤ 20000 := by
    rw [← hw.2, List.length_append, List.length_cons]
    omega
  have := Pl.par_yes hlen hw
  exact ⟨this.1, this.2.1, this.2.2, by rw [← bl_len]; exact hlen⟩

end Go.Proofs.YtaopohihipihdaaGreatDoor
