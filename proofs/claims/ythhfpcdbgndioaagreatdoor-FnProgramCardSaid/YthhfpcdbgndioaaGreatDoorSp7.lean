import Derived.Test.YthhfpcdbgndioaaGreatDoorSp4
namespace Go.Proofs.YthhfpcdbgndioaaGreatDoor
open Go.RowKit
set_option linter.unusedVariables false
set_option maxRecDepth 100000
namespace Pl
def one1 : Sv := ⟨1, [1], [], f0⟩
def two5 : Sv := ⟨4, [], [], ⟨5, 1, 0, []⟩⟩
def nst : Nat → List Sv
  | 0 => [one1]
  | n + 1 => one1 :: (nst n ++ [two5])
def wst : Tv := ⟨1, [], [⟨2, [], [119], f0⟩], []⟩
theorem nst_len : ∀ n, (nst n).length = 2 * n + 1
  | 0 => rfl
  | n + 1 => by simp [nst, nst_len n]; omega
/-- spec.DrawPrint -/
def dprK (bs : List Nat) (k : Nat) (g : List Tv × Nat) : List Tv :=
  if k % 4 = 3 then spo bs g.2 g.1
  else if k % 32 = 2 then g.1 ++ [⟨1, [], nst (37 + k / 32), []⟩]
  else if k % 32 = 6 then g.1 ++ List.replicate (1990 + k / 32 * 2 - g.1.length) wst
  else g.1
def dpr (bs : List Nat) : List Tv := dprK bs (nx bs 0).1 (gpr bs (nx bs 0).2)
end Pl
/-- a list that is just laid, of one record -/
theorem Own.lit {α : Type} {et z : Nat} {Q : World → List Value → α → List Nat → Prop} (L : Lives Q) {w : World} {a : α} {ys : List Value} {G : List Nat} {B : Nat} (hq : Q w ys a G) (hG : Inb B w G) (hn : G.Nodup) (hl : ys.length = z) : Own et z Q (w.alloc (.cells ys.toArray et)) (.slice (some ⟨w.heap.size, 0, none⟩) 1 1) [a] (w.heap.size :: G) := by
  refine ⟨ys, G, rfl, ⟨by simpa using hl, .inr ⟨w.heap.size, 1, ys.toArray, rfl, Nat.zero_le _, heap_alloc_new w _, Nat.le_refl _, by simp [maxLen], by simpa using hl, by simp [← hl]⟩⟩, (RowQ.one hq).keep L (fun b hb => Below.heap_alloc _ _ _ (hG b hb).2), ?_⟩
  rw [List.nodup_cons]
  exact ⟨fun hm => by have := (hG _ hm).2; omega, hn⟩
theorem RowQ.ones {w : World} : ∀ {xs : List Value} {c : List Pl.Sv} {F : List Nat}, RowQ Qs w xs c F → ∀ u ∈ xs, u.oneCell' = true
  | xs, [], F, h, u, hu => by obtain ⟨rfl, _⟩ := h; cases hu
  | xs, a :: c, F, h, u, hu => by
    obtain ⟨x, xs', f, F', rfl, rfl, h1, h2⟩ := h
    rcases List.mem_append.1 hu with r | r
    · exact h1.len.2 u r
    · exact RowQ.ones h2 u r
/-- a round of the first loop -/
theorem nst_round {B P : Nat} {w1 X : World} {bs : List Nat} {pos : Nat} {v : Value} {c : List Pl.Sv} {F : List Nat} (h : Dn 40 7 Qs B P w1 X bs pos [] v c F) (hc : c.length ≤ 1000) (p : Nat) (hp : p = X.heap.size) :
    ∃ g cap w9 v10 w10 F10, (Builtin.append_ #[41, 41] 41 #[v, .slice (some ⟨p + 3, 0, none⟩) 1 1]).run Tryz.prog ((((X.alloc (.cells #[.int .i64 1] 3)).alloc (.cells #[.int .i64 1, .slice (some ⟨p, 0, none⟩) 1 1, .string ⟨#[]⟩, .int .i64 0, .int .i64 0, .int .i64 0, .string ⟨#[]⟩] 40)).alloc (.cells #[] 3)).alloc (.cells #[.int .i64 4, .slice (some ⟨p + 2, 0, none⟩) 0 0, .string ⟨#[]⟩, .int .i64 5, .int .i64 1, .int .i64 0, .string ⟨#[]⟩] 40)) = .ok (.slice (some ⟨g, 0, none⟩) (c.length + 1) cap) w9 ∧
      (Builtin.append_ #[41, 41] 41 #[.slice (some ⟨p + 1, 0, none⟩) 1 1, .slice (some ⟨g, 0, none⟩) (c.length + 1) cap]).run Tryz.prog w9 = .ok v10 w10 ∧ Dn 40 7 Qs B P w1 w10 bs pos [] v10 (Pl.one1 :: (c ++ [Pl.two5])) F10 := by
  subst hp
  have hlt := h.r.lt
  have hbp := h.r.bp
  have hks := h.k.size
  generalize hX1 : X.alloc (.cells #[.int .i64 1] 3) = X1
  have z1 : X1.heap.size = X.heap.size + 1 := by rw [← hX1]; simp
  have h1 : Dn 40 7 Qs B P w1 X1 bs pos [] v c F := by rw [← hX1]; exact h.alloc Qs.lives _
  have o1 : Own 3 1 Qi X1 (.slice (some ⟨X.heap.size, 0, none⟩) 1 1) [1] [X.heap.size] := by rw [← hX1]; exact Own.lit (et := 3) (z := 1) Qi.lives (w := X) (a := (1 : Int)) (ys := [.int .i64 1]) (G := []) (B := 0) ⟨rfl, rfl⟩ (Inb.nil _ _) (by simp) rfl
  generalize hX2 : X1.alloc (.cells #[.int .i64 1, .slice (some ⟨X.heap.size, 0, none⟩) 1 1, .string ⟨#[]⟩, .int .i64 0, .int .i64 0, .int .i64 0, .string ⟨#[]⟩] 40) = X2
  have z2 : X2.heap.size = X.heap.size + 2 := by rw [← hX2]; simp; omega
  have h2 : Dn 40 7 Qs B P w1 X2 bs pos [] v c F := by rw [← hX2]; exact h1.alloc Qs.lives _
  have o2 : OwS X2 (.slice (some ⟨X.heap.size + 1, 0, none⟩) 1 1) [Pl.one1] [X.heap.size + 1, X.heap.size] := by
    rw [← hX2, ← z1]
    exact Own.lit (et := 40) (z := 7) Qs.lives (w := X1) (a := Pl.one1) (ys := [.int .i64 1, .slice (some ⟨X.heap.size, 0, none⟩) 1 1, .string ⟨#[]⟩, .int .i64 0, .int .i64 0, .int .i64 0, .string ⟨#[]⟩]) (G := [X.heap.size]) (B := 0) ⟨_, rfl, o1⟩ (fun b hb => by simp at hb; subst hb; exact ⟨Nat.zero_le _, by omega⟩) (by simp) rfl
  generalize hX3 : X2.alloc (.cells #[] 3) = X3
  have z3 : X3.heap.size = X.heap.size + 3 := by rw [← hX3]; simp; omega
  have h3 : Dn 40 7 Qs B P w1 X3 bs pos [] v c F := by rw [← hX3]; exact h2.alloc Qs.lives _
  have e3 : Own 3 1 Qi X3 (.slice (some ⟨X.heap.size + 2, 0, none⟩) 0 0) [] [X.heap.size + 2] := by rw [← hX3, ← z2]; exact Own.empty X2
  have k23 : ∀ b, b < X2.heap.size → X3.heap[b]? = X2.heap[b]? := fun b hb => by rw [← hX3]; exact Below.heap_alloc _ _ _ hb
  generalize hX4 : X3.alloc (.cells #[.int .i64 4, .slice (some ⟨X.heap.size + 2, 0, none⟩) 0 0, .string ⟨#[]⟩, .int .i64 5, .int .i64 1, .int .i64 0, .string ⟨#[]⟩] 40) = X4
  have z4 : X4.heap.size = X.heap.size + 4 := by rw [← hX4]; simp; omega
  have h4 : Dn 40 7 Qs B P w1 X4 bs pos [] v c F := by rw [← hX4]; exact h3.alloc Qs.lives _
  have k34 : ∀ b, b < X3.heap.size → X4.heap[b]? = X3.heap[b]? := fun b hb => by rw [← hX4]; exact Below.heap_alloc _ _ _ hb
  have e4 : Own 3 1 Qi X4 (.slice (some ⟨X.heap.size + 2, 0, none⟩) 0 0) [] [X.heap.size + 2] := e3.keep Qi.lives (fun b hb => k34 b (by simp at hb; omega))
  have c4 : ∀ j u, ([.int .i64 4, .slice (some ⟨X.heap.size + 2, 0, none⟩) 0 0, .string ⟨#[]⟩, .int .i64 5, .int .i64 1, .int .i64 0, .string ⟨#[]⟩] : List Value)[j]? = some u → X4.cell? ⟨X.heap.size + 3, 0 + j, none⟩ = some u := fun j u hu => by
    rw [← hX4, ← z3]
    exact cells_new (w := X3) (t := 40) rfl j u hu
  have hFX : ∀ x ∈ F, x < X.heap.size := fun x hx => (h.i x hx).2
  obtain ⟨v9, w9, F9, hr9, ho9, hi9, hg9, _, hf9⟩ := Own.append el34 Qs.lives (d := [Pl.two5]) (G := [X.heap.size + 2]) (cap := 1) h4.o h4.i (RowQ.one ⟨_, rfl, e4⟩) (fun b hb => by simp at hb; subst hb; exact ⟨by omega, by omega⟩) (by simp) (fun x hx hm => by simp at hx; subst hx; have := hFX _ hm; omega) rfl c4 (by simp [Value.oneCell']) (by simp; omega) (by omega) 41
  have D9 := h4.app' ho9 hi9 hg9 (G := [X.heap.size + 2]) (fun x hx => by rcases hf9 x hx with r | r | r; exact .inl r; exact .inr (.inl r); exact .inr (.inr (by omega))) (fun x hx => by simp at hx; subst hx; exact ⟨by omega, .inr (by omega)⟩)
  obtain ⟨g, cap, xs, fp, hv9, hF9, hl9, hq9, hn9, hg9l, hc9, _⟩ := ho9.cells (by simp)
  have hv9' : v9 = .slice (some ⟨g, 0, none⟩) (c.length + 1) cap := by rw [hv9]; simp
  have hob : ∀ b, v.ownBlock = some b → b < X.heap.size := fun b hb => hFX b (h.o.lt b hb).1
  have k9 : ∀ b, X.heap.size ≤ b → b < X4.heap.size → w9.heap[b]? = X4.heap[b]? := fun b h1 h2 => hg9.block b h2 (fun e => by have := hob b e.symm; omega)
  have kk : ∀ b ∈ [X.heap.size + 1, X.heap.size], w9.heap[b]? = X2.heap[b]? := fun b hb => by
    have : X.heap.size ≤ b ∧ b < X.heap.size + 2 := by simp at hb; omega
    exact (k9 b this.1 (by omega)).trans ((k34 b (by omega)).trans (k23 b (by omega)))
  have o9 := o2.keep Qs.lives kk
  have s9 := hg9.size
  have hfp : ∀ x ∈ fp, x ∈ F9 := fun x hx => by rw [hF9]; exact List.mem_cons_of_mem _ hx
  have hrange : ∀ x ∈ F9, x < X.heap.size ∨ x = X.heap.size + 2 ∨ x = X.heap.size + 4 := fun x hx => by
    rcases hf9 x hx with r | r | r
    · exact .inl (hFX x r)
    · simp at r; exact .inr (.inl r)
    · exact .inr (.inr (by omega))
  obtain ⟨v10, w10, F10, hr10, ho10, hi10, hg10, _, hf10⟩ := Own.append el34 Qs.lives (B := B) (d := c ++ [Pl.two5]) (G := fp) (cap := cap) (b := g) (off := 0) o9 (fun b hb => by simp at hb; exact ⟨by omega, by omega⟩) hq9 (fun b hb => hi9 b (hfp b hb)) (List.nodup_cons.1 hn9).2 (fun x hx hm => by have := hrange x (hfp x hx); simp at hm; omega) (by simpa using hl9) (fun j u hu => by rw [Nat.zero_add]; exact hc9 j u hu) hq9.ones (by simp; omega) (by omega) 41
  refine ⟨g, cap, w9, v10, w10, F10, hv9' ▸ hr9, ?_, ?_⟩
  · rw [List.length_append] at hr10
    exact hr10
  · have kx : Kx w9 w10 [X.heap.size + 1] := Kx.grown hg10 (fun b hb => by simp [Value.ownBlock] at hb; simp [hb])
    have hlt9 := D9.r.lt
    refine ⟨D9.r.kx kx (by simp; omega), ho10, hi10, fun hm => ?_, D9.k.trans kx (by simp; omega), fun x hx => ?_⟩
    · rcases hf10 P hm with r | r | r
      · simp at r; omega
      · exact D9.p (hfp _ r)
      · omega
    · rcases hf10 x hx with r | r | r
      · simp at r; exact .inr (by omega)
      · exact D9.f x (hfp x r)
      · exact .inr (by have := D9.k.size; omega)
namespace Pl
/-- a step that is small -/
def oS (s : Sv) : Prop := s.nums.length ≤ 3 ∧ s.nm.length ≤ 21 ∧ s.fn.nm.length ≤ 21
def oC (c : List Sv) : Prop := c ≠ [] ∧ c.length ≤ 100 ∧ ∀ s ∈ c, oS s
def oT (t : Tv) : Prop := oC t.code ∧ t.nm.length ≤ 21 ∧ t.gs.length ≤ 2 ∧ ∀ g ∈ t.gs, oC g.test ∧ oC g.thn
theorem nmF_le (j : Nat) : (nmF j).length ≤ 21 := by unfold nmF; (repeat' split) <;> simp
theorem nmA_le (j : Nat) : (nmA j).length ≤ 21 := by unfold nmA; (repeat' split) <;> simp
theorem nmS_le (j : Nat) : (nmS j).length ≤ 21 := by unfold nmS; (repeat' split) <;> simp
theorem nmG_le (j : Nat) : (nmG j).length ≤ 21 := by unfold nmG; (repeat' split) <;> simp
theorem nm6_le (j : Nat) : (nm6 j).length ≤ 21 := by unfold nm6; (repeat' split) <;> simp
theorem gfn_le (bs : List Nat) (p : Nat) (two : Bool) : (gfn bs p two).1.nm.length ≤ 21 := by
  unfold gfn gfnK
  repeat' split
  all_goals first | exact nmF_le _ | simp
theorem atm_oS (bs : List Nat) (p : Nat) : oS (atm bs p).1 := by
  unfold atm atmK
  split
  · exact ⟨by simp, nmA_le _, by simp [f0]⟩
  · exact ⟨by rw [cls_len]; omega, by simp, by simp [f0]⟩
theorem gen_oS (bs : List Nat) : ∀ d p, (gen bs d p).1 ≠ [] ∧ ∀ s ∈ (gen bs d p).1, oS s
  | 0, p => by simp [gen, at1]; exact atm_oS bs _
  | d + 1, p => by
    have h := gen_oS bs d
    have at_ : ∀ p, (at1 bs p).1 ≠ [] ∧ ∀ s ∈ (at1 bs p).1, oS s := fun p => by simp [at1]; exact atm_oS bs _
    unfold gen genK
    split
    · exact at_ _
    · split
      · exact at_ _
      · split
        · refine ⟨by simp, fun s hs => ?_⟩
          rcases List.mem_append.1 hs with r | r
          · exact (h _).2 s r
          · simp at r; subst r; exact ⟨by simp, by simp, gfn_le _ _ _⟩
        · split
          · refine ⟨by simp, fun s hs => ?_⟩
            rcases List.mem_append.1 hs with r | r
            · rcases List.mem_append.1 r with r | r
              · exact (h _).2 s r
              · exact (h _).2 s r
            · simp at r; subst r; exact ⟨by simp, by simp, gfn_le _ _ _⟩
          · refine ⟨by simp, fun s hs => ?_⟩
            rcases List.mem_append.1 hs with r | r
            · rcases List.mem_append.1 r with r | r
              · exact (h _).2 s r
              · simp at r; subst r; exact atm_oS bs _
            · simp at r; subst r; exact ⟨by simp, by simp, gfn_le _ _ _⟩
theorem gen_oC (bs : List Nat) (d p : Nat) (hd : d ≤ 3) : oC (gen bs d p).1 := by
  have h := gen_len bs d p
  have : 2 ^ (d + 1) ≤ 2 ^ 4 := Nat.pow_le_pow_right (by omega) (by omega)
  exact ⟨(gen_oS bs d p).1, by omega, (gen_oS bs d p).2⟩
theorem grds_oC (bs : List Nat) (p : Nat) : ∀ n, ∀ g ∈ (grds bs p n).1, oC g.test ∧ oC g.thn
  | 0 => by simp [grds]
  | n + 1 => fun g hg => by
    rcases List.mem_append.1 hg with r | r
    · exact grds_oC bs p n g r
    · simp at r; subst r; exact ⟨gen_oC bs 2 _ (by omega), gen_oC bs 2 _ (by omega)⟩
theorem gst_oT (bs : List Nat) (p : Nat) : oT (gst bs p).1 := by
  unfold gst gstK
  split
  · exact ⟨gen_oC bs _ _ (by omega), nmS_le _, by simp, by simp⟩
  · split
    · exact ⟨gen_oC bs _ _ (by omega), nmG_le _, by rw [grds_len]; omega, grds_oC bs _ _⟩
    · exact ⟨gen_oC bs _ _ (by omega), by simp, by simp, by simp⟩
theorem gsts_oT (bs : List Nat) (p : Nat) : ∀ n, ∀ t ∈ (gsts bs p n).1, oT t
  | 0 => by simp [gsts]
  | n + 1 => fun t ht => by
    rcases List.mem_append.1 ht with r | r
    · exact gsts_oT bs p n t r
    · simp at r; subst r; exact gst_oT bs _
theorem gpr_len (bs : List Nat) (p : Nat) : 1 ≤ (gpr bs p).1.length ∧ (gpr bs p).1.length ≤ 4 := by
  unfold gpr
  rw [gsts_len]
  omega
theorem gpr_oT (bs : List Nat) (p : Nat) : ∀ t ∈ (gpr bs p).1, oT t := gsts_oT bs _ _
end Pl
/-- the first list of the first loop -/
theorem nst_start {B P : Nat} {X : World} {bs : List Nat} {pos : Nat} (r : Rr B P X bs pos) (p : Nat) (hp : p = X.heap.size) :
    Dn 40 7 Qs B P X ((X.alloc (.cells #[.int .i64 1] 3)).alloc (.cells #[.int .i64 1, .slice (some ⟨p, 0, none⟩) 1 1, .string ⟨#[]⟩, .int .i64 0, .int .i64 0, .int .i64 0, .string ⟨#[]⟩] 40)) bs pos [] (.slice (some ⟨p + 1, 0, none⟩) 1 1) (Pl.nst 0) [p + 1, p] := by
  subst hp
  have hlt := r.lt
  have hbp := r.bp
  have o1 : Own 3 1 Qi (X.alloc (.cells #[.int .i64 1] 3)) (.slice (some ⟨X.heap.size, 0, none⟩) 1 1) [1] [X.heap.size] := Own.lit (et := 3) (z := 1) Qi.lives (w := X) (a := (1 : Int)) (ys := [.int .i64 1]) (G := []) (B := 0) ⟨rfl, rfl⟩ (Inb.nil _ _) (by simp) rfl
  have z1 : (X.alloc (.cells #[.int .i64 1] 3)).heap.size = X.heap.size + 1 := by simp
  have o2 := Own.lit (et := 40) (z := 7) Qs.lives (w := X.alloc (.cells #[.int .i64 1] 3)) (a := Pl.one1) (ys := [.int .i64 1, .slice (some ⟨X.heap.size, 0, none⟩) 1 1, .string ⟨#[]⟩, .int .i64 0, .int .i64 0, .int .i64 0, .string ⟨#[]⟩]) (G := [X.heap.size]) (B := 0) ⟨_, rfl, o1⟩ (fun b hb => by simp at hb; subst hb; exact ⟨Nat.zero_le _, by omega⟩) (by simp) rfl
  rw [z1] at o2
  have kx : Kx X ((X.alloc (.cells #[.int .i64 1] 3)).alloc (.cells #[.int .i64 1, .slice (some ⟨X.heap.size, 0, none⟩) 1 1, .string ⟨#[]⟩, .int .i64 0, .int .i64 0, .int .i64 0, .string ⟨#[]⟩] 40)) [P] := ((Kx.refl X [P]).alloc _).alloc _
  exact ⟨(r.keep ((Below.refl _ _).alloc (Nat.le_refl _) _)).keep ((Below.refl _ _).alloc (Nat.le_refl _) _), o2, fun b hb => by simp at hb; exact ⟨by omega, by simp; omega⟩, by simp; omega, kx, fun x hx => by simp at hx; exact .inr (by omega)⟩
theorem Below.kx {C : Nat} {w w1 w2 : World} {P : Nat} (h : Below C w w1) (k : Kx w1 w2 [P]) (hP : C ≤ P) (hC : C ≤ w1.heap.size) : Below C w w2 :=
  ⟨k.os.trans h.os, k.tape.trans h.tape, k.output.trans h.output, Nat.le_trans h.size k.size, fun b hb => (k.block b (by omega) (by simp; omega)).trans (h.block b hb)⟩
theorem Dn.hdP {B P : Nat} {w0 w : World} {bs : List Nat} {pos : Nat} {v : Value} {c : List Pl.Tv} {F : List Nat} (h : Dn 44 4 Qt B P w0 w bs pos [] v c F) : HdP w v c F := OwP.hd h.o h.i
set_option maxHeartbeats 4000000 in
/-- spec.DrawPrint -/
theorem drawPrint_any (B : Nat) (ao : Option Addr) (cap : Nat) (bs : List Nat) (w : World) (hcap : bs.length ≤ cap) (hm : cap ≤ 9223372036854775807) (hB : B ≤ w.heap.size) (h8 : ∀ x ∈ bs, x ≤ 255) (h : RdN B w ao bs) :
    Calls Tryz.prog 4 #[.slice ao bs.length cap] w fun e w' => ∃ v F, e = .returned v ∧ HdP w' v (Pl.dpr (bs.take 1000)) F ∧ Below w.heap.size w w' := by
  have K0 := hideP (openx_any B ao cap bs w hcap hm hB h8 h)
  have h8' : ∀ x ∈ bs.take 1000, x ≤ 255 := fun x hx => h8 x (List.mem_of_mem_take hx)
  generalize bs.length = n0 at *
  generalize bs.take 1000 = b5 at *
  clear h h8
  have K1 := hideP (fun (X : World) (r : Rr B w.heap.size X b5 0) => nextx_any B w.heap.size X b5 0 r)
  have hk : (Pl.nx b5 0).1 ≤ 255 := Pl.nx_le h8'
  have HG := hideP (show Pl.dpr b5 = Pl.dprK b5 (Pl.nx b5 0).1 (Pl.gpr b5 (Pl.nx b5 0).2) from rfl)
  generalize Pl.dpr b5 = R at *
  generalize Pl.nx b5 0 = a1 at *
  obtain ⟨k, p1⟩ := a1
  simp only at hk HG K1
  have K2 := hideP (fun (X : World) (r : Rr B w.heap.size X b5 p1) => genProg_any B w.heap.size X b5 p1 r)
  have hgl := Pl.gpr_len b5 p1
  have HGT := hideP (Pl.gpr_oT b5 p1)
  generalize Pl.gpr b5 p1 = a2 at *
  obtain ⟨l, p2⟩ := a2
  simp only at hgl HGT K2
  have HG := HG.out
  unfold Pl.dprK at HG
  have m4 : Int.tmod (k : Int) 4 = ((k % 4 : Nat) : Int) := by rw [Int.tmod_eq_emod_of_nonneg (by omega)]; omega
  have m32 : Int.tmod (k : Int) 32 = ((k % 32 : Nat) : Int) := by rw [Int.tmod_eq_emod_of_nonneg (by omega)]; omega
  have q32 : Int.tdiv (k : Int) 32 = ((k / 32 : Nat) : Int) := by rw [Int.tdiv_eq_ediv_of_nonneg (by omega)]; omega
  have hq : k / 32 ≤ 7 := by omega
  generalize k % 4 = x4 at *
  generalize k % 32 = x32 at *
  generalize k / 32 = q at *
  go_enter Tryz.func4, Tryz.ntmps4
  go_wp2_with fail
  refine K0.out.mono ?_
  rintro e w1 ⟨rfl, r1, b1⟩
  have K1 := hideP (K1.out w1 r1)
  have HB1 := hideP b1
  have hP1 : w.heap.size < w1.heap.size := r1.lt
  clear r1 b1 K0
  go_wp2_with fail
  refine K1.out.mono ?_
  rintro e w2 ⟨rfl, d2⟩
  have HB2 := hideP (Below.kx HB1.out (Kx.grown (A := [w.heap.size]) d2.g (by simp)) (Nat.le_refl _) (Nat.le_of_lt hP1))
  have K2 := hideP (K2.out w2 d2.r)
  have hP2 : w.heap.size < w2.heap.size := d2.r.lt
  clear d2 K1 HB1
  go_wp2_with fail
  refine K2.out.mono ?_
  rintro e w3 ⟨v5, F5, rfl, d3⟩
  have HD := hideP d3
  obtain ⟨a5, c5, rfl⟩ := d3.o.slice
  have FIN : Hid (∀ (X : World) (v : Value) (F : List Nat), HdP X v R F → Kx w2 X [w.heap.size] → (∃ v' F', Ending.returned v = Ending.returned v' ∧ HdP X v' R F' ∧ Below w.heap.size w X)) := fun X v F h1 h2 => ⟨v, F, rfl, h1, Below.kx HB2.out h2 (Nat.le_refl _) (Nat.le_of_lt hP2)⟩
  clear d3 K2
  generalize hln : l.length = n at *
  obtain ⟨hn1, hn4⟩ := hgl
  by_cases h3 : x4 = 3
  · subst h3
    rw [if_pos rfl] at HG
    have KS := hideP (spoil_any B w.heap.size w2 w3 b5 p2 _ l F5 HD.out (by intro e; rw [e] at hln; simp at hln; omega) (by omega) (fun t ht => by have := HGT.out t ht; exact ⟨this.1.1, by have := this.1.2.1; omega, by have := this.2.2.1; omega, fun s hs => by have := (this.1.2.2 s hs).1; omega⟩))
    go_wp2_with fail
    refine KS.out.mono ?_
    rintro e w4 ⟨rfl, ⟨F4, h4⟩, k4⟩
    have H4 := hideP (FIN.out w4 _ F4 (by rw [HG]; exact h4) k4)
    clear h4 k4 KS
    go_wp2_with fail
    refine bodyPost_ret (v := .slice a5 n c5) (by simp [results, Tryz.results4, go_sem]) rfl ?_
    exact H4.out
  rw [if_neg h3] at HG
  have b4 : ((x4 : Int) == 3) = false := by simp; omega
  by_cases h2 : x32 = 2
  · subst h2
    rw [if_pos rfl] at HG
    have HS0 := hideP (nst_start HD.out.r w3.heap.size rfl)
    go_wp2_with fail
    go_loopw [6, 7] (fun v6 v7 wr => ∃ (i : Nat) (F : List Nat), v7 = .int .i64 (i : Int) ∧ i ≤ 37 + q ∧ Hid (Dn 40 7 Qs B w.heap.size w3 wr b5 p2 [] v6 (Pl.nst i) F)) (fun v6 v7 wr => 37 + q - (intOf v7).toNat)
    case atStart => exact ⟨0, _, rfl, by omega, HS0.out⟩
    case round =>
      rename World => wr
      obtain ⟨i, F, rfl, hi, HI⟩ := hrel
      obtain ⟨a6, c6, e6⟩ := HI.out.o.slice
      rw [Pl.nst_len] at e6
      subst e6
      by_cases hlast : i < 37 + q
      · have hl' : (i : Int) < 37 + (q : Int) := by omega
        obtain ⟨g9, c9, w9, v10, w10, F10, hr9, hr10, D10⟩ := nst_round HI.out (by rw [Pl.nst_len]; omega) wr.heap.size rfl
        rw [Pl.nst_len] at hr9 hr10
        rw [show wr.heap.size + 3 = wr.heap.size + 1 + 1 + 1 from rfl, show wr.heap.size + 2 = wr.heap.size + 1 + 1 from rfl] at hr9
        have H9 := hideP hr9
        have H10 := hideP hr10
        have HD10 := hideP D10
        obtain ⟨a10, c10, rfl⟩ := D10.o.slice
        generalize (Pl.one1 :: (Pl.nst i ++ [Pl.two5])).length = l10 at *
        clear hr9 hr10 D10 HI
        go_wp2_with (at_builtin; first | refine wpList_append_eq _ w9 rfl (.tmp 37) (.tmp 41) #[41, 41] rfl (.slice a6 (2 * i + 1) c6) (.slice (some ⟨wr.heap.size + 1 + 1 + 1, 0, none⟩) 1 1) (.slice (some ⟨g9, 0, none⟩) (2 * i + 1 + 1) c9) (by kernel_rfl) (by kernel_rfl) H9.out ?_ | refine wpList_append_eq _ w10 rfl (.tmp 36) (.tmp 42) #[41, 41] rfl (.slice (some ⟨wr.heap.size + 1, 0, none⟩) 1 1) (.slice (some ⟨g9, 0, none⟩) (2 * i + 1 + 1) c9) (.slice a10 l10 c10) (by kernel_rfl) (by kernel_rfl) H10.out ?_)
        go_roundw
        case rel => exact ⟨i + 1, F10, by simp, by omega, HD10.out⟩
        case measure => simp [intOf]; omega
      · have hl' : ¬ (i : Int) < 37 + (q : Int) := by omega
        obtain rfl : i = 37 + q := by omega
        have E1 := hideP (HD.out.with_ Qt.lives HI.out)
        have H1 := hideP HI.out
        have HLN := hideP hln
        have HGG := hideP HG
        clear HI HD HS0 HG
        go_wp2_with (at_builtin; refine wpList_append_o el22 Qt.lives _ rfl _ _ rfl _ _ _ _ _ rfl rfl l [⟨1, [], Pl.nst (37 + q), []⟩] F5 F [.int .i64 1, .string ⟨#[]⟩, .slice a6 (2 * (37 + q) + 1) c6, .slice none 0 0] B ?ho ?hi ?hy ?hG ?hn ?hd rfl rfl ?hc ?h1 ?hbd ?hB ?_)
        case ho => exact (E1.out.1.alloc Qt.lives _).o
        case hi => exact (E1.out.1.alloc Qt.lives _).i
        case hy => exact RowQ.one ⟨_, _, F, [], rfl, by simp, (H1.out.alloc Qs.lives _).o, Own.nil _⟩
        case hG => exact (H1.out.alloc Qs.lives _).i
        case hn => exact H1.out.nd
        case hd => exact E1.out.2.1
        case h1 => simp [Value.oneCell']
        case hbd => omega
        case hB => have := E1.out.1.r.bp; have := E1.out.1.r.lt; simp; omega
        intro v9 w9 F9 ho9 hi9 hg9 _ hf9
        have D9 := (E1.out.1.alloc Qt.lives _).app' ho9 hi9 hg9 (G := F) (fun x hx => by have := hf9 x hx; simp at this ⊢; rcases this with r | r | r; exact .inl r; exact .inr (.inl r); exact .inr (.inr (by omega))) E1.out.2.2
        obtain ⟨a9, n9, e9⟩ := ho9.slice
        have H9 := hideP (FIN.out w9 v9 F9 (by rw [HGG.out]; exact D9.hdP) D9.k)
        generalize (l ++ [(⟨1, [], Pl.nst (37 + q), []⟩ : Pl.Tv)]).length = l9 at e9
        subst e9
        clear ho9 hi9 hg9 hf9 E1 H1 D9
        go_wp2_with fail
        refine bodyPost_ret (v := .slice a9 l9 n9) (by simp [results, Tryz.results4, go_sem]) rfl ?_
        obtain ⟨v', F', e, h1, h2⟩ := H9.out
        first | exact ⟨v', F', e, h1, h2⟩ | exact ⟨v', e, ⟨F', h1⟩, h2⟩
  rw [if_neg h2] at HG
  have b32 : ((x32 : Int) == 2) = false := by simp; omega
  by_cases h6 : x32 = 6
  · subst h6
    rw [if_pos rfl] at HG
    have HLN := hideP hln
    have HGG := hideP HG
    have I0 : Hid (Dn 44 4 Qt B w.heap.size w2 w3 b5 p2 [] (.slice a5 n c5) (l ++ List.replicate 0 Pl.wst) F5) := by
      show Dn _ _ _ _ _ _ _ _ _ _ _ _ _
      simpa using HD.out
    clear HG hln HD
    go_wp2_with fail
    go_loopw [5, 8] (fun v5 v8 wr => ∃ (i : Nat) (F : List Nat), v8 = .int .i64 (i : Int) ∧ n + i ≤ 1990 + q * 2 ∧ Hid (Dn 44 4 Qt B w.heap.size w2 wr b5 p2 [] v5 (l ++ List.replicate i Pl.wst) F)) (fun v5 v8 wr => 1990 + q * 2 - (n + (intOf v8).toNat))
    case atStart => exact ⟨0, F5, rfl, by omega, I0⟩
    case round =>
      rename World => wr
      obtain ⟨i, F, rfl, hi, HI⟩ := hrel
      obtain ⟨a6, c6, e6⟩ := HI.out.o.slice
      rw [List.length_append, List.length_replicate, HLN.out] at e6
      subst e6
      by_cases hlast : n + i < 1990 + q * 2
      · have hl' : (n : Int) + (i : Int) < 1990 + (q : Int) * 2 := by omega
        have HLI : Hid ((l ++ List.replicate i Pl.wst).length = n + i) := by
          show _ = _
          rw [List.length_append, List.length_replicate, HLN.out]
        have HLS : Hid (l ++ List.replicate (i + 1) Pl.wst = (l ++ List.replicate i Pl.wst) ++ [Pl.wst]) := by
          show _ = _
          rw [List.replicate_succ', List.append_assoc]
        generalize l ++ List.replicate i Pl.wst = li at *
        have HO : Hid (∀ ob, Own 40 7 Qs ((wr.alloc (.cells #[.int .i64 2, .slice none 0 0, .string ⟨#[119]⟩, .int .i64 0, .int .i64 0, .int .i64 0, .string ⟨#[]⟩] 40)).alloc ob) (.slice (some ⟨wr.heap.size, 0, none⟩) 1 1) [⟨2, [], [119], Pl.f0⟩] [wr.heap.size]) := fun ob => (Own.lit (et := 40) (z := 7) Qs.lives (w := wr) (a := ⟨2, [], [119], Pl.f0⟩) (ys := [.int .i64 2, .slice none 0 0, .string ⟨#[119]⟩, .int .i64 0, .int .i64 0, .int .i64 0, .string ⟨#[]⟩]) (G := []) (B := 0) ⟨_, rfl, Own.nil _⟩ (Inb.nil _ _) (by simp) rfl).keep Qs.lives (fun b hb => Below.heap_alloc _ _ _ (by simp at hb; simp; omega))
        go_wp2_with (at_builtin; refine wpList_append_o el22 Qt.lives _ rfl _ _ rfl _ _ _ _ _ rfl rfl li [Pl.wst] F [wr.heap.size] [.int .i64 1, .string ⟨#[]⟩, .slice (some ⟨wr.heap.size, 0, none⟩) 1 1, .slice none 0 0] B ?ho2 ?hi2 ?hy2 ?hG2 ?hn2 ?hd2 rfl rfl ?hc2 ?h12 ?hbd2 ?hB2 ?_)
        case ho2 => exact ((HI.out.alloc Qt.lives _).alloc Qt.lives _).o
        case hi2 => exact ((HI.out.alloc Qt.lives _).alloc Qt.lives _).i
        case hy2 => exact RowQ.one ⟨_, _, [wr.heap.size], [], rfl, by simp, HO.out _, Own.nil _⟩
        case hG2 => exact fun b hb => by simp at hb; subst hb; exact ⟨by have := HI.out.r.bp; have := HI.out.r.lt; omega, by simp; omega⟩
        case hn2 => simp
        case hd2 => exact fun x hx hm => by simp at hx; subst hx; have := (HI.out.i _ hm).2; omega
        case hc2 => exact cells_new (l := [.int .i64 1, .string ⟨#[]⟩, .slice (some ⟨wr.heap.size, 0, none⟩) 1 1, .slice none 0 0]) (by simp)
        case h12 => simp [Value.oneCell']
        case hbd2 => rw [HLI.out]; simp; omega
        case hB2 => have := HI.out.r.bp; have := HI.out.r.lt; simp; omega
        intro v9 w9 F9 ho9 hi9 hg9 _ hf9
        have D9 := hideP (((HI.out.alloc Qt.lives _).alloc Qt.lives _).app' ho9 hi9 hg9 (G := [wr.heap.size]) (fun x hx => by have := hf9 x hx; simp at this ⊢; rcases this with r | r | r; exact .inl r; exact .inr (.inl r); exact .inr (.inr (by omega))) (fun x hx => by simp at hx; subst hx; exact ⟨by have := HI.out.r.lt; omega, .inr HI.out.k.size⟩))
        have hone := ho9.one
        clear ho9 hi9 hg9 hf9 HI HO
        go_wp2_with fail
        go_roundw
        case rel => exact ⟨i + 1, F9, by simp, by omega, by rw [HLS.out]; exact D9.out⟩
        case measure => simp [intOf]; omega
      · have hl' : ¬ (n : Int) + (i : Int) < 1990 + (q : Int) * 2 := by omega
        have hi' : i = 1990 + q * 2 - n := by omega
        have H9 := hideP (FIN.out wr _ F (by rw [HGG.out]; rw [← hi']; exact HI.out.hdP) HI.out.k)
        clear HI I0 hi'
        go_wp2_with fail
        refine bodyPost_ret (v := .slice a6 (n + i) c6) (by simp [results, Tryz.results4, go_sem]) rfl ?_
        obtain ⟨v', F', e, h1, h2⟩ := H9.out
        first | exact ⟨v', F', e, h1, h2⟩ | exact ⟨v', e, ⟨F', h1⟩, h2⟩
  · rw [if_neg h6] at HG
    have b6 : ((x32 : Int) == 6) = false := by simp; omega
    have H9 := hideP (FIN.out w3 _ F5 (by rw [HG]; exact HD.out.hdP) HD.out.k)
    clear HD FIN HG
    go_wp2_with fail
    refine bodyPost_ret (v := .slice a5 n c5) (by simp [results, Tryz.results4, go_sem]) rfl ?_
    obtain ⟨v', F', e, h1, h2⟩ := H9.out
    first | exact ⟨v', F', e, h1, h2⟩ | exact ⟨v', e, ⟨F', h1⟩, h2⟩
end Go.Proofs.YthhfpcdbgndioaaGreatDoor
