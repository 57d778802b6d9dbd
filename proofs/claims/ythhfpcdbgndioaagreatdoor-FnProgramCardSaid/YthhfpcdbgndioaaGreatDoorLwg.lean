import Derived.Test.YthhfpcdbgndioaaGreatDoorSm3
import Derived.Test.YthhfpcdbgndioaaGreatDoorSpr
import Derived.Test.YthhfpcdbgndioaaGreatDoorPrg
namespace Go.Proofs.YthhfpcdbgndioaaGreatDoor
open Go.RowKit
set_option linter.unusedVariables false
set_option maxRecDepth 100000
namespace Pl
/-- what a spoilt program is still -/
def zS (s : Sv) : Prop := s.nums.length ≤ 4 ∧ s.nm.length ≤ 21 ∧ s.fn.nm.length ≤ 21
def zC (c : List Sv) : Prop := c.length ≤ 100 ∧ ∀ s ∈ c, zS s
def zT (t : Tv) : Prop := zC t.code ∧ t.nm.length ≤ 21 ∧ t.gs.length ≤ 3 ∧ ∀ g ∈ t.gs, zC g.test ∧ zC g.thn
theorem oS.w {s : Sv} (h : oS s) : zS s := ⟨by have := h.1; omega, h.2⟩
theorem oC.w {c : List Sv} (h : oC c) : zC c := ⟨h.2.1, fun s hs => oS.w (h.2.2 s hs)⟩
theorem oT.w {t : Tv} (h : oT t) : zT t := ⟨oC.w h.1, h.2.1, by have := h.2.2.1; omega, fun g hg => ⟨oC.w (h.2.2.2 g hg).1, oC.w (h.2.2.2 g hg).2⟩⟩
theorem modL_mem {α : Type} {c : List α} {m : Nat} {f : α → α} {x : α} (h : x ∈ modL c m f) : x ∈ c ∨ ∃ y ∈ c, x = f y := by
  unfold modL at h
  rcases List.mem_append.1 h with r | r
  · exact .inl (List.mem_of_mem_take r)
  · split at r
    · rename_i t ht
      rcases List.mem_cons.1 r with r | r
      · exact .inr ⟨t, List.mem_of_getElem? ht, r⟩
      · exact .inl (List.mem_of_mem_drop r)
    · cases r
theorem modL_len {α : Type} (c : List α) (m : Nat) (f : α → α) : (modL c m f).length ≤ c.length := by
  unfold modL
  rw [List.length_append, List.length_take]
  split
  · rename_i t ht
    have : m < c.length := (List.getElem?_eq_some_iff.1 ht).1
    rw [List.length_cons, List.length_drop]
    omega
  · rw [List.length_nil]
    omega
theorem zC.mod {c : List Sv} (h : oC c) (m : Nat) (f : Sv → Sv) (hf : ∀ s, oS s → zS (f s)) : zC (modL c m f) :=
  ⟨Nat.le_trans (modL_len c m f) h.2.1, fun s hs => by
    rcases modL_mem hs with r | ⟨y, hy, rfl⟩
    · exact oS.w (h.2.2 s r)
    · exact hf y (h.2.2 y hy)⟩
theorem spS_w {k v m : Nat} {t : Tv} (h : oT t) : zT (spS k v m t) := by
  have hw := oT.w h
  unfold spS
  split
  · exact ⟨hw.1, hw.2.1, hw.2.2⟩
  split
  · exact ⟨hw.1, nm6_le _, hw.2.2⟩
  split
  · exact ⟨⟨by have := hw.1.1; simp; omega, fun s hs => hw.1.2 s (List.mem_of_mem_take hs)⟩, hw.2⟩
  split
  · exact ⟨zC.mod h.1 _ _ (fun s hs => ⟨by have := hs.1; simp; omega, hs.2⟩), hw.2⟩
  split
  · exact ⟨zC.mod h.1 _ _ (fun s hs => ⟨by have := hs.1; simp; omega, hs.2⟩), hw.2⟩
  split
  · exact ⟨zC.mod h.1 _ _ (fun s hs => ⟨by have := hs.1; simp; omega, hs.2⟩), hw.2⟩
  split
  · exact ⟨zC.mod h.1 _ _ (fun s hs => ⟨by have := hs.1; simp; omega, hs.2⟩), hw.2⟩
  split
  · refine ⟨hw.1, hw.2.1, by have := h.2.2.1; simp; omega, fun g hg => ?_⟩
    rcases List.mem_append.1 hg with r | r
    · exact hw.2.2.2 g r
    · simp at r; subst r; exact ⟨⟨by simp, by simp⟩, by simp, by simp⟩
  · exact ⟨zC.mod h.1 _ _ (fun s hs => ⟨by have := hs.1; simp; omega, by simp, hs.2.2⟩), hw.2⟩
theorem nst_oS : ∀ n, ∀ s ∈ nst n, oS s
  | 0, s, h => by simp [nst] at h; subst h; simp [oS, one1, f0]
  | n + 1, s, h => by
    simp only [nst, List.mem_cons, List.mem_append, List.not_mem_nil, or_false] at h
    rcases h with rfl | r | rfl
    · simp [oS, one1, f0]
    · exact nst_oS n s r
    · simp [oS, two5]
theorem sum_le {α : Type} (f : α → Nat) (b : Nat) : ∀ (l : List α), (∀ x ∈ l, f x ≤ b) → (l.map f).sum ≤ l.length * b
  | [], _ => by simp
  | x :: l, h => by
    have := sum_le f b l (fun y hy => h y (by simp [hy]))
    have := h x (by simp)
    rw [List.map_cons, List.sum_cons, List.length_cons, Nat.succ_mul]
    omega
theorem zC.sz {c : List Sv} (h : zC c) : csz c ≤ 500 := by
  have h1 := sum_le (fun s : Sv => s.nums.length) 4 c (fun s hs => (h.2 s hs).1)
  have h2 : c.length * 4 ≤ 100 * 4 := Nat.mul_le_mul_right _ h.1
  have := h.1
  unfold csz
  omega
theorem zC.small {c : List Sv} (h : zC c) : Small c := ⟨by have := zC.sz h; omega, fun s hs => ⟨by have := (h.2 s hs).2.1; omega, by have := (h.2 s hs).2.2; omega⟩⟩
theorem zT.sz {t : Tv} (h : zT t) : ssz t ≤ 4000 := by
  have h1 := sum_le gsz 1000 t.gs (fun g hg => by have := zC.sz (h.2.2.2 g hg).1; have := zC.sz (h.2.2.2 g hg).2; unfold gsz; omega)
  have h2 : t.gs.length * 1000 ≤ 3 * 1000 := Nat.mul_le_mul_right _ h.2.2.1
  have := zC.sz h.1
  have := h.2.2.1
  unfold ssz
  omega
theorem zT.small {t : Tv} (h : zT t) : SmallT t := ⟨zC.small h.1, by have := h.2.1; omega, fun g hg => ⟨zC.small (h.2.2.2 g hg).1, zC.small (h.2.2.2 g hg).2⟩⟩
theorem psz_app (a b : List Tv) : psz (a ++ b) = psz a + psz b := by
  unfold psz
  rw [List.length_append, List.map_append, List.sum_append]
  omega
theorem psz_le (l : List Tv) (h : ∀ t ∈ l, zT t) : psz l ≤ l.length * 4001 := by
  have := sum_le ssz 4000 l (fun t ht => zT.sz (h t ht))
  unfold psz
  omega
theorem psz_rep : ∀ n, psz (List.replicate n wst) = 2 * n
  | 0 => rfl
  | n + 1 => by
    rw [List.replicate_succ', psz_app, psz_rep n]
    rfl
theorem wst_w : zT wst := ⟨⟨by simp [wst], by simp [wst, zS, f0]⟩, by simp [wst], by simp [wst], by simp [wst]⟩
/-- the drawn program is not too great -/
theorem dpr_w (bs : List Nat) (hb : ∀ x ∈ bs, x ≤ 255) : (∀ t ∈ dpr bs, zT t) ∧ psz (dpr bs) ≤ 100000 := by
  have hg := gpr_len bs (nx bs 0).2
  have hT := gpr_oT bs (nx bs 0).2
  have hk := nx_le (p := 0) hb
  unfold dpr dprK
  generalize gpr bs (nx bs 0).2 = a at *
  obtain ⟨l, p⟩ := a
  simp only at hg hT
  generalize (nx bs 0).1 = k at *
  have hz : psz l ≤ 4 * 4001 := Nat.le_trans (psz_le l (fun t ht => oT.w (hT t ht))) (Nat.mul_le_mul_right _ hg.2)
  split
  · have hw : ∀ t ∈ spo bs p l, zT t := fun t ht => by
      rcases modL_mem ht with r | ⟨y, hy, rfl⟩
      · exact oT.w (hT t r)
      · exact spS_w (hT y hy)
    have hl : (spo bs p l).length ≤ 4 := Nat.le_trans (modL_len _ _ _) hg.2
    exact ⟨hw, by have := psz_le _ hw; have : (spo bs p l).length * 4001 ≤ 4 * 4001 := Nat.mul_le_mul_right _ hl; simp only; omega⟩
  split
  · have hn : zT ⟨1, [], nst (37 + k / 32), []⟩ := ⟨⟨by simp only [nst_len]; omega, fun s hs => oS.w (nst_oS _ s hs)⟩, by simp, by simp, by simp⟩
    refine ⟨fun t ht => ?_, ?_⟩
    · rcases List.mem_append.1 ht with r | r
      · exact oT.w (hT t r)
      · rw [List.mem_singleton] at r; subst r; exact hn
    · rw [psz_app]
      have := psz_le [⟨1, [], nst (37 + k / 32), []⟩] (fun t ht => by rw [List.mem_singleton] at ht; subst ht; exact hn)
      simp only [List.length_cons, List.length_nil] at this
      simp only
      omega
  split
  · refine ⟨fun t ht => ?_, ?_⟩
    · rcases List.mem_append.1 ht with r | r
      · exact oT.w (hT t r)
      · obtain ⟨_, rfl⟩ := List.mem_replicate.1 r; exact wst_w
    · rw [psz_app, psz_rep]
      simp only
      omega
  · exact ⟨fun t ht => oT.w (hT t ht), by simp only; omega⟩
theorem dpr_small (bs : List Nat) (hb : ∀ x ∈ bs, x ≤ 255) : SmallP (dpr bs) := ⟨by have := (dpr_w bs hb).2; omega, fun t ht => zT.small ((dpr_w bs hb).1 t ht)⟩
theorem zC.z {c : List Sv} (h : zC c) : Sz c := ⟨by have := h.1; omega, fun s hs => by have := (h.2 s hs).1; omega⟩
theorem dpr_sz (bs : List Nat) (hb : ∀ x ∈ bs, x ≤ 255) : SzT (dpr bs) :=
  ⟨(dpr_small bs hb).len, fun t ht => by
    have := (dpr_w bs hb).1 t ht
    exact ⟨zC.z this.1, by have := this.2.2.1; omega, fun g hg => ⟨zC.z (this.2.2.2 g hg).1, zC.z (this.2.2.2 g hg).2⟩⟩⟩
end Pl
set_option maxHeartbeats 4000000 in
/-- laws.FnProgram -/
theorem program_law (ao : Option Addr) (cap mb mo cp : Nat) (bs : List Nat) (w : World) (hcap : bs.length ≤ cap) (hm : cap ≤ 9223372036854775807) (h8 : ∀ x ∈ bs, x ≤ 255) (hR : RdN w.heap.size w ao bs) (he : Ev w mb mo cp) :
    Calls Tryz.prog 3 #[.slice ao bs.length cap] w fun e w' => e = .returned (.bool true) ∧ Below w.heap.size w w' := by
  have KD : Hid (∀ W, Below w.heap.size w W → Calls Tryz.prog 4 #[.slice ao bs.length cap] W fun e w' => ∃ v F, e = .returned v ∧ HdP w' v (Pl.dpr (bs.take 1000)) F ∧ Below W.heap.size W w') := fun W hb => drawPrint_any w.heap.size ao cap bs W hcap hm hb.size h8 (hR.keep hb)
  have h8' : ∀ x ∈ bs.take 1000, x ≤ 255 := fun x hx => h8 x (List.mem_of_mem_take hx)
  have HSM := hideP (Pl.dpr_small _ h8')
  have HSZ := hideP (Pl.dpr_sz _ h8')
  have HE := hideP he
  clear hR h8 h8' he
  generalize bs.length = n at *
  generalize Pl.dpr (bs.take 1000) = p at *
  by_cases hbig : 1048576 < n
  · have hbig' : (1048576 : Int) < (n : Int) := by omega
    clear KD HSM HSZ HE
    go_enter Tryz.func3, Tryz.ntmps3
    go_wp2_with fail
    go_ret
    exact ⟨rfl, Below.refl _ _⟩
  have hbig' : ¬ (1048576 : Int) < (n : Int) := by omega
  have KS : Hid (∀ (a : Option Addr) (c : Nat) (W : World), RdP W.heap.size W a p → Calls Tryz.prog 5 #[.slice a p.length c] W fun e w' => e = .returned (.tuple #[.string (Pl.ba (Pl.prt Pl.nt p).1), .bool (Pl.prt Pl.nt p).2]) ∧ Below W.heap.size W w') := fun a c W h => specPrint_any p a c HSM.out W h
  have KI : Hid (∀ (a : Option Addr) (c : Nat) (W : World), Ev W mb mo cp → RdP W.heap.size W a p → Calls Tryz.prog 6 #[.slice a p.length c] W fun e w' => e = .returned (.tuple #[.string (Pl.ba (Pl.prt Pl.nt p).1), .bool (Pl.prt Pl.nt p).2]) ∧ Below W.heap.size W w') := fun a c W h1 h2 => implPrint_any p a c mb mo cp HSM.out W h1 h2
  have KE : Hid (∀ (a1 a2 : Option Addr) (c1 c2 : Nat) (W : World), RdP W.heap.size W a1 p → RdP W.heap.size W a2 p → Calls Tryz.prog 8 #[.slice a1 p.length c1, .slice a2 p.length c2] W fun e w' => e = .returned (.bool true) ∧ ∃ q, w' = W.drewN q) := fun a1 a2 c1 c2 W h1 h2 => sameProgram_same p a1 a2 c1 c2 W HSZ.out h1 h2
  have HF : Hid ((Pl.prt Pl.nt p).2 = false → (Pl.prt Pl.nt p).1 = []) := Pl.prt_false
  have HT : Hid ((Pl.prt Pl.nt p).2 = true → Pl.prsS (Pl.ba (Pl.prt Pl.nt p).1) = (p, 0, 0) ∧ (Pl.ba (Pl.prt Pl.nt p).1).size ≤ 4000) := Pl.prs_prt
  generalize Pl.prt Pl.nt p = T at *
  obtain ⟨tx, ok⟩ := T
  simp only at HF HT KS KI
  clear HSM HSZ
  have KD0 := hideP (KD.out w (Below.refl _ _))
  go_enter Tryz.func3, Tryz.ntmps3
  go_wp2_with fail
  refine KD0.out.mono ?_
  rintro e w1 ⟨v1, F1, rfl, hH1, hb1⟩
  obtain ⟨a1, c1, rfl⟩ := hH1.form
  have R1 := hideP (HdP.rd hH1)
  have B1 := hideP hb1
  have K2 := hideP (KS.out a1 c1 w1 R1.out)
  clear hH1 hb1 KD0 KS
  go_wp2_with fail
  refine K2.out.mono ?_
  rintro e w2 ⟨rfl, hb2⟩
  have R2 := hideP ((R1.out.keep hb2).up hb2.size)
  have B2 := hideP (B1.out.trans (hb2.mono B1.out.size))
  have K3 := hideP (KD.out w2 B2.out)
  clear hb2 K2 KD R1 B1
  go_wp2_with fail
  refine K3.out.mono ?_
  rintro e w3 ⟨v3, F3, rfl, hH3, hb3⟩
  obtain ⟨a3, c3, rfl⟩ := hH3.form
  have B3 := hideP (B2.out.trans (hb3.mono B2.out.size))
  have R3 := hideP ((R2.out.keep hb3).up hb3.size)
  have E3 := hideP (HE.out.keep B3.out)
  have K4 := hideP (KI.out a3 c3 w3 E3.out (HdP.rd hH3))
  clear hb3 hH3 K3 KI R2 B2 HE
  go_wp2_with fail
  refine K4.out.mono ?_
  rintro e w4 ⟨rfl, hb4⟩
  have B4 := hideP (B3.out.trans (hb4.mono B3.out.size))
  have R4 := hideP ((R3.out.keep hb4).up hb4.size)
  have E4 := hideP (E3.out.keep hb4)
  clear hb4 K4 R3 B3 E3
  cases ok
  · have e0 := HF.out rfl
    subst e0
    clear HF HT KE
    have ee : ((Pl.ba []).toList == ([] : List UInt8)) = true := by rw [ByteArray.toList_eq]; rfl
    go_wp2_with fail
    go_ret
    exact ⟨rfl, B4.out⟩
  · obtain ⟨hp, hs⟩ := HT.out rfl
    have K5 := hideP (implParse_any (Pl.ba tx) mb mo cp w4 E4.out.mt (by omega))
    generalize Pl.ba tx = tb at *
    clear HF HT hs
    have HP := hideP hp
    clear hp
    go_wp2_with fail
    refine K5.out.mono ?_
    rintro e w5 ⟨v5, F5, he5, hb5, ho5, hi5⟩
    rw [HP.out] at he5 ho5
    simp only at he5 ho5
    have B5 := hideP (B4.out.trans (hb5.mono B4.out.size))
    have R5 := hideP ((R4.out.keep hb5).up hb5.size)
    have hH5 := OwP.hd ho5 hi5
    obtain ⟨a5, c5, e5⟩ := ho5.slice
    subst e5
    subst he5
    have K6 := hideP (KE.out a5 a1 c5 c1 w5 (HdP.rd hH5) R5.out)
    clear hb5 ho5 hi5 hH5 K5 KE R4 B4 E4
    go_wp2_with fail
    refine K6.out.mono ?_
    rintro e w6 ⟨rfl, q6, rfl⟩
    have B6 : Hid (Below w.heap.size w (w5.drewN q6)) := B5.out.trans (Below.ofN _ _ _)
    clear K6 B5
    go_wp2_with fail
    go_ret
    exact ⟨rfl, B6.out⟩
end Go.Proofs.YthhfpcdbgndioaaGreatDoor
