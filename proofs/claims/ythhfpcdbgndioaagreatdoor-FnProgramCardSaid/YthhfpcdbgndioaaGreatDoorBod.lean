import Derived.Test.YthhfpcdbgndioaaGreatDoorRt4
namespace Go.Proofs.YthhfpcdbgndioaaGreatDoor
open Go.RowKit
set_option linter.unusedVariables false
set_option maxRecDepth 100000
/-- what is kept while the parser goes on -/
theorem own_go {α : Type} {et z : Nat} {Q : World → List Value → α → List Nat → Prop} (L : Lives Q) {X X' : World} {v : Value} {c : List α} {F : List Nat} {B p : Nat} (h : Own et z Q X v c F) (hi : Inb B X F) (hp : p < B) (hg : X.grownBy X' (some p)) : Own et z Q X' v c F ∧ Inb B X' F :=
  ⟨h.grown L hi hg (fun b hb hm => by cases hb; have := (hi _ hm).1; omega), hi.up (Nat.le_refl _) hg.size⟩
theorem heap_setCells_ne {b b' : Nat} (h : b' ≠ b) : ∀ (vs : List Value) (o : Nat) (w : World), (w.setCells b o vs).heap[b']? = w.heap[b']?
  | [], _, _ => rfl
  | v :: vs, o, w => (heap_setCells_ne h vs (o + 1) (w.setCell ⟨b, o, none⟩ v)).trans (Below.heap_setCell _ _ _ b' (fun e => h e))
theorem own_set {α : Type} {et z : Nat} {Q : World → List Value → α → List Nat → Prop} (L : Lives Q) {X : World} {v : Value} {c : List α} {F : List Nat} {B q : Nat} (h : Own et z Q X v c F) (hi : Inb B X F) (hq : q < B) (vs : List Value) : Own et z Q (X.setCells q 0 vs) v c F ∧ Inb B (X.setCells q 0 vs) F := by
  have hb : Below q X (X.setCells q 0 vs) := setCells_below (B := q) _ (Nat.le_refl _) _ 0 _ (Below.refl _ _)
  refine ⟨h.keep L (fun b hb' => ?_), hi.up (Nat.le_refl _) hb.size⟩
  have := (hi b hb').1
  exact heap_setCells_ne (by omega) _ _ _
theorem Bs.ofown {w X X' : World} {l : List Pl.Itk} {p cap : Nat} {ao : Option Addr} {mb mo cp a : Nat} {be : Bool} (h : Bs w X l p cap ao mb mo cp a be) {o : Option Nat} (hg : X.grownBy X' o) (ho : ∀ q, o = some q → w.heap.size + 1 ≤ q) : Bs w X' l p cap ao mb mo cp a be := by
  have hb : Below (w.heap.size + 1) X X' := ⟨hg.os, hg.tape, hg.output, hg.size, fun k hk => hg.block k (by have := h.lt; omega) (fun e => by have := ho k e.symm; omega)⟩
  have hpw := h.pw
  have e : X'.heap[w.heap.size]? = X.heap[w.heap.size]? := hb.block _ (Nat.lt_succ_self _)
  have ep : X'.heap[p]? = X.heap[p]? := hb.block _ (by omega)
  have g (j : Nat) : X'.cell? ⟨w.heap.size, j, none⟩ = X.cell? ⟨w.heap.size, j, none⟩ := World.cell?_of_block e
  have gp (j : Nat) : X'.cell? ⟨p, j, none⟩ = X.cell? ⟨p, j, none⟩ := World.cell?_of_block ep
  have hP := h.ps
  exact ⟨h.e.low (hb.mono (by omega)), ⟨Nat.lt_of_lt_of_le hP.lt hb.size, (gp 0).trans hP.c0, (gp 1).trans hP.c1, (gp 2).trans hP.c2, (gp 3).trans hP.c3, fun j => (World.frozen?_of_block (a := ⟨p, j, none⟩) ep).trans (hP.fz j)⟩, grown_then h.g hb (by omega), h.pw, Nat.lt_of_lt_of_le h.lt hb.size, (g 0).trans h.z0, (g 1).trans h.z1, (g 2).trans h.z2, (g 3).trans h.z3, fun j => (World.frozen?_of_block (a := ⟨w.heap.size, j, none⟩) e).trans (h.zf j)⟩
theorem PoB.none_ {l : List Pl.Itk} {p cap a : Nat} {ao : Option Addr} {be : Bool} {nm : ByteArray} {w w' : World} {Y : Option (List (Pl.E × Pl.E) × Pl.E × List Pl.T)} {k : Int} {nm' : ByteArray} {a1 a2 : Option Addr} {n1 n2 c1 c2 a' : Nat} {be' : Bool} (hY : Y = none) (h : IxP l p cap ao 0 be' w a' w') : PoB l p cap a ao be nm w Y (.returned (.tuple #[StV k nm' (.slice a1 n1 c1) (.slice a2 n2 c2), .bool false])) w' := by
  subst hY
  exact ⟨k, nm', _, _, a', be', rfl, ⟨_, _, _, rfl⟩, ⟨_, _, _, rfl⟩, h⟩
set_option maxHeartbeats 4000000 in
/-- (*impl.parser).body -/
theorem body_any (N k : Nat) (l : List Pl.Itk) (p cap a mb mo cp : Nat) (ao : Option Addr) (be : Bool) (nm : ByteArray) (w : World) (hl : l.length ≤ 1000000) (ha : a ≤ l.length) (hn : 2 * l.length + 1 ≤ N) (hkl : l.length < k) (hk : ∀ t ∈ l, Pl.iOk t) (hE : Ej w l p ao mb mo cp) (hP : Ps w p ao l.length cap a 0 be) :
    Calls Tryz.prog 61 #[.pointer (some ⟨p, 0, none⟩), .string nm] w (PoB l p cap a ao be nm w (Pl.pbody N k (Pl.seps (Pl.rI l a)))) := by
  have K54 : Hid (∀ (X : World) (b : Nat) (bb : Bool), Bs w X l p cap ao mb mo cp b bb → b ≤ l.length → Calls Tryz.prog 59 #[.pointer (some ⟨p, 0, none⟩)] X (PoK l p cap b ao bb X (Pl.pexpr N (Pl.rI l b)))) := fun X b bb h hb => code_any N l p cap b mb mo cp ao bb X hl hb hn hk h.e h.ps
  have K52 : Hid (∀ (X : World) (b : Nat) (bb : Bool) (text : ByteArray), Bs w X l p cap ao mb mo cp b bb → b ≤ l.length → Calls Tryz.prog 57 #[.pointer (some ⟨p, 0, none⟩), .string text] X fun e w' => e = .returned (.bool (decide ((Pl.tkAt l b).tx = text))) ∧ Ps w' p ao l.length cap (if (Pl.tkAt l b).tx = text then b + 1 else b) 0 bb ∧ X.grownBy w' (some p)) := fun X b bb text h hb => sign_any l p cap b 0 ao bb text X (by omega) (by omega) h.ps (h.e.r.up (Nat.le_of_lt h.ps.lt))
  have K33 : Hid (∀ (X : World) (b : Nat) (bb : Bool), Bs w X l p cap ao mb mo cp b bb → b ≤ l.length → Calls Tryz.prog 32 #[.pointer (some ⟨p, 0, none⟩)] X fun e w' => e = .returned (.bool (decide (b < Pl.sepA l b))) ∧ Ps w' p ao l.length cap (Pl.sepA l b) 0 bb ∧ X.grownBy w' (some p)) := fun X b bb h hb => separators_any l p cap b 0 mb mo cp ao bb X (by omega) (by omega) h.e h.ps
  have BS0 := hideP (Bs.new hE hP)
  have HK := hideP hk
  have hsa := Pl.sepA_le ha
  have HSa : Hid (Pl.seps (Pl.rI l a) = Pl.rI l (Pl.sepA l a)) := Pl.seps_T hk _ a (Nat.le_refl _)
  rw [HSa.out]
  generalize hY : Pl.pbody N k (Pl.rI l (Pl.sepA l a)) = Y at *
  have HY0 := hideP hY
  have k33 := hideP (K33.out _ a be BS0.out ha)
  clear hE hP hk hY HSa
  go_enter Tryz.func61, Tryz.ntmps61
  go_wp2_with fail
  refine k33.out.mono ?_
  rintro e w1 ⟨rfl, hP1, hg1⟩
  have B1 := hideP (BS0.out.step hg1 hP1)
  clear hP1 hg1 k33 BS0
  generalize decide (a < Pl.sepA l a) = bz at *
  generalize hb1 : Pl.sepA l a = a1 at *
  clear hb1
  go_wp2_with fail
  go_loopw [6] (fun u wr => ∃ (b : Nat) (gs : List (Pl.E × Pl.E)) (F : List Nat) (kk : Nat) (ag : Option Addr) (ng cg : Nat) (bb : Bool), u = .slice ag ng cg ∧ a1 ≤ b ∧ b ≤ l.length ∧ ng ≤ b ∧ gs.length = ng ∧ l.length - b < kk ∧ Hid (Bs w wr l p cap ao mb mo cp b bb) ∧ Hid (OwG wr (.slice ag ng cg) (gs.map Pl.gv) F) ∧ Hid (Inb (w.heap.size + 1) wr F) ∧ Hid (Y = Pl.pbA gs (Pl.pbody N kk (Pl.rI l b))) ∧ Hid (bb = (be || Pl.gsB gs))) (fun _ wr => l.length - (intOf ((wr.cell? ⟨p, 1, none⟩).getD undef)).toNat)
  case atStart => exact ⟨a1, [], [], k, none, 0, 0, be, rfl, Nat.le_refl _, hsa.2, Nat.zero_le _, rfl, by omega, B1, Own.nil _, Inb.nil _ _, by show _ = _; rw [Pl.pbA_nil]; exact HY0.out.symm, by show _ = _; simp [Pl.gsB]⟩
  case round =>
    obtain ⟨b, gs, F, kk, ag, ng, cg, bb, rfl, hab, hb, hngb, hng, hfu, BS, OG, IG, HY, HBB⟩ := hrel
    have HNG := hideP hng
    clear hng HY0
    obtain ⟨kk, rfl⟩ : ∃ m, kk = m + 1 := ⟨kk - 1, by omega⟩
    have hm1 : wr.cell? ⟨p, 1, none⟩ = some (.int .i64 b) := BS.out.ps.c1
    have k54 := hideP (K54.out wr b bb BS.out hb)
    have hpw : p < w.heap.size := BS.out.pw
    cases hX : Pl.pexpr N (Pl.rI l b) with
    | none =>
      rw [hX] at k54
      have HYN : Hid (Y = none) := by show _ = _; rw [HY.out, Pl.pb_none hX]; rfl
      clear HY hX K54 K52 K33
      go_wp2_with fail
      refine k54.out.mono ?_
      rintro e w2 ⟨a2, be2, rfl, hI2⟩
      have B2 := BS.out.step hI2.g hI2.ps
      obtain ⟨_, _, _, _, _, z0, z1, z2, z3, zf⟩ := id B2
      have HE := hideP (B2.end_x hI2.le (.int .i64 0) (.string ⟨#[]⟩) (.slice none 0 0) (.slice none 0 0))
      clear B2 hI2 k54 BS OG IG B1
      go_wp2_with fail
      refine bodyPost_ret (v := .tuple #[StV 0 ⟨#[]⟩ (.slice none 0 0) (.slice none 0 0), .bool false]) (by simp [results, Tryz.results61, go_sem, StV, z0, z1, z2, z3]) rfl (PoB.none_ HYN.out HE.out)
    | some q =>
      obtain ⟨x, r⟩ := q
      rw [hX] at k54
      have hlw := BS.out.lt
      have HX := hideP hX
      clear hX
      go_wp2_with fail
      refine k54.out.mono ?_
      rintro e w2 ⟨cv, F1, b2, rfl, hO1, hI1, hX2, hb2, hbb2, hr2⟩
      obtain ⟨a5, c5, rfl⟩ := hO1.slice
      have HNC : Hid (x.code.length = x.code.length) := rfl
      generalize hnc : x.code.length = nc at hO1 HNC ⊢
      have B2 := BS.out.step hX2.g hX2.ps
      obtain ⟨g2a, g2b⟩ := own_go Qg.lives OG.out IG.out (p := p) (by omega) hX2.g
      have OG2 := hideP g2a
      have IG2 := hideP g2b
      have O1 := hideP hO1
      have I1 := hideP (hI1.up (B' := w.heap.size + 1) (by omega) (Nat.le_refl _))
      have D1 : Hid (∀ x ∈ F1, x ∉ F) := fun x hx hm => by have := (hI1 x hx).1; have := (IG.out x hm).2; omega
      have HR2 := hideP hr2
      have hncl : nc ≤ l.length := by rw [← hnc]; exact px_len HX.out
      clear g2a g2b hO1 hI1 hX2 k54 BS OG IG hr2 hnc B1
      have k52 := hideP (K52.out w2 b2 _ ⟨#[58]⟩ B2 hb2)
      by_cases hc : (Pl.tkAt l b2).tx = ⟨#[58]⟩
      · -- a guard
        obtain ⟨r', hr'⟩ := (Pl.sgn_at HK.out b2 (c := [58]) (by decide) Pl.tx_col).1 hc
        obtain ⟨hb2', hr3⟩ := Pl.rI_next hr'
        have HX2 : Hid (Pl.pexpr N (Pl.rI l b) = some (x, .col :: r')) := by show _ = _; rw [HX.out, ← HR2.out, hr']
        rw [decide_eq_true hc, if_pos hc] at k52
        clear hr' HX HR2 hc
        go_wp2_with fail
        refine k52.out.mono ?_
        rintro e w3 ⟨rfl, hP3, hg3⟩
        have B3 := B2.step hg3 hP3
        obtain ⟨g3a, g3b⟩ := own_go Qg.lives OG2.out IG2.out (p := p) (by omega) hg3
        obtain ⟨g3c, g3d⟩ := own_go Qs.lives O1.out I1.out (p := p) (by omega) hg3
        have OG3 := hideP g3a
        have IG3 := hideP g3b
        have O3 := hideP g3c
        have I3 := hideP g3d
        clear g3a g3b g3c g3d OG2 IG2 O1 I1 B2 hP3 hg3 k52
        have k54 := hideP (K54.out w3 (b2 + 1) _ B3 hb2')
        rw [hr3] at k54
        cases hX3 : Pl.pexpr N r' with
        | none =>
          rw [hX3] at k54
          have HYN : Hid (Y = none) := by show _ = _; rw [HY.out, Pl.pb_col_none HX2.out hX3]; rfl
          clear HY hX3 K54 K52 K33 HX2
          go_wp2_with fail
          refine k54.out.mono ?_
          rintro e w4 ⟨b4, be4, rfl, hI4⟩
          have B4 := B3.step hI4.g hI4.ps
          have hle4 := hI4.le
          clear k54 hI4 OG3 IG3 O3 I3
          obtain ⟨_, _, _, _, _, z0, z1, z2, z3, zf⟩ := id B4
          have HE := hideP (B4.end_x (by omega) (.int .i64 0) (.string ⟨#[]⟩) (.slice none 0 0) (.slice none 0 0))
          clear B4 B3
          go_wp2_with fail
          refine bodyPost_ret (v := .tuple #[StV 0 ⟨#[]⟩ (.slice none 0 0) (.slice none 0 0), .bool false]) (by simp [results, Tryz.results61, go_sem, StV, z0, z1, z2, z3]) rfl (PoB.none_ HYN.out HE.out)
        | some q =>
          obtain ⟨y, r2⟩ := q
          rw [hX3] at k54
          have HX3 := hideP hX3
          clear hX3
          have hlw3 := B3.lt
          go_wp2_with fail
          refine k54.out.mono ?_
          rintro e w4 ⟨tv, F3, b4, rfl, hO4, hI4, hX4, hb4, hbb4, hr4⟩
          obtain ⟨a6, c6, rfl⟩ := hO4.slice
          generalize hnc4 : y.code.length = nd at hO4 ⊢
          have hncl4 : nd ≤ l.length := by rw [← hnc4]; exact px_len (a := b2 + 1) (by rw [hr3]; exact HX3.out)
          have B4 := B3.step hX4.g hX4.ps
          obtain ⟨g4a, g4b⟩ := own_go Qg.lives OG3.out IG3.out (p := p) (by omega) hX4.g
          obtain ⟨g4c, g4d⟩ := own_go Qs.lives O3.out I3.out (p := p) (by omega) hX4.g
          have OG4 := hideP g4a
          have IG4 := hideP g4b
          have O4 := hideP g4c
          have I4 := hideP g4d
          have P4 := hideP hO4
          have J4 := hideP (hI4.up (B' := w.heap.size + 1) (by omega) (Nat.le_refl _))
          have D3 : Hid (∀ x ∈ F3, x ∉ F) := fun x hx hm => by have := (hI4 x hx).1; have := (IG3.out x hm).2; omega
          have D13 : Hid (∀ x ∈ F1, x ∉ F3) := fun x hx hm => by have := (hI4 x hm).1; have := (I3.out x hx).2; omega
          have HR4 := hideP hr4
          clear g4a g4b g4c g4d OG3 IG3 O3 I3 B3 hO4 hI4 hX4 k54 hnc4 hr4
          have k33 := hideP (K33.out w4 b4 _ B4 hb4)
          have hsb := Pl.sepA_le hb4
          by_cases hs : b4 < Pl.sepA l b4
          · obtain ⟨r5, hr5⟩ := (Pl.sep_lt HK.out b4).1 hs
            have HST : Hid (Pl.rI l (Pl.sepA l b4) = Pl.seps r5) := by
              show _ = _
              rw [← Pl.seps_T HK.out _ b4 (Nat.le_refl _), hr5]
              rfl
            have HY2 : Hid (Y = Pl.pbA (gs ++ [(x, y)]) (Pl.pbody N kk (Pl.rI l (Pl.sepA l b4)))) := by
              show _ = _
              rw [HY.out, Pl.pb_col (y := y) (r2 := r5) HX2.out (by rw [HX3.out, ← HR4.out, hr5]), Pl.pbA_cons, HST.out]
            rw [decide_eq_true hs] at k33
            generalize Pl.sepA l b4 = b5 at *
            clear HY HX2 HX3 HR4 hr5 HST K54 K52 K33
            go_wp2_with fail
            refine k33.out.mono ?_
            rintro e w5 ⟨rfl, hP5, hg5⟩
            have B5 := hideP (B4.step hg5 hP5)
            obtain ⟨g5a, g5b⟩ := own_go Qg.lives OG4.out IG4.out (p := p) (by omega) hg5
            obtain ⟨g5c, g5d⟩ := own_go Qs.lives O4.out I4.out (p := p) (by omega) hg5
            obtain ⟨g5e, g5f⟩ := own_go Qs.lives P4.out J4.out (p := p) (by omega) hg5
            have OG5 := hideP g5a
            have IG5 := hideP g5b
            have O5 := hideP g5c
            have I5 := hideP g5d
            have P5 := hideP g5e
            have J5 := hideP g5f
            clear g5a g5b g5c g5d g5e g5f OG4 IG4 O4 I4 P4 J4 B4 hP5 hg5 k33
            have BA : Below w5.heap.size w5 (w5.alloc (.cells #[.slice a5 nc c5, .slice a6 nd c6] 48)) := (Below.refl _ _).alloc (Nat.le_refl _) _
            have hlw5 := B5.out.lt
            have hone1 := O5.out.one
            go_wp2_with (at_builtin; refine wpList_append_o el35 Qg.lives _ rfl _ _ rfl _ _ _ _ _ rfl rfl (gs.map Pl.gv) [Pl.gv (x, y)] F (F1 ++ F3) [.slice a5 nc c5, .slice a6 nd c6] (w.heap.size + 1) ?ho ?hi ?hy ?hG ?hn ?hd ?hm ?hl ?hc ?h1 ?hbd ?hB ?_)
            case ho => exact OG5.out.below Qg.lives IG5.out BA (Nat.le_refl _)
            case hi => exact IG5.out.up (Nat.le_refl _) BA.size
            case hy => exact RowQ.one ⟨_, _, F1, F3, rfl, rfl, O5.out.below Qs.lives I5.out BA (Nat.le_refl _), P5.out.below Qs.lives J5.out BA (Nat.le_refl _)⟩
            case hG => exact (I5.out.up (Nat.le_refl _) BA.size).app (J5.out.up (Nat.le_refl _) BA.size)
            case hn =>
              obtain ⟨_, _, _, _, _, n1⟩ := O5.out
              obtain ⟨_, _, _, _, _, n2⟩ := P5.out
              rw [List.nodup_append]
              exact ⟨n1, n2, fun x hx y hy e => D13.out x hx (e ▸ hy)⟩
            case hd =>
              intro x hx
              rcases List.mem_append.1 hx with h | h
              · exact D1.out x h
              · exact D3.out x h
            case hm => rfl
            case hl => rfl
            case hc => exact cells_new (by simp)
            case h1 => intro u hu; simp only [List.mem_cons, List.not_mem_nil, or_false] at hu; rcases hu with rfl | rfl <;> rfl
            case hbd => rw [List.length_map, HNG.out]; simp; omega
            case hB => simp; omega
            intro v9 w9 F9 ho9 hi9 hg9 _ hf9
            obtain ⟨ag9, cg9, rfl⟩ := ho9.slice
            have B9 := hideP ((B5.out.keep BA).ofown hg9 (fun q e => by have h := (OG5.out.lt q e).1; exact (IG5.out q h).1))
            have hm9 := B9.out.ps.c1
            have HM9 : Hid ((gs ++ [(x, y)]).length = ng + 1) := by show _ = _; rw [List.length_append, HNG.out]; rfl
            have hl9 : (gs.map Pl.gv ++ [Pl.gv (x, y)]).length = ng + 1 := by simp [HNG.out]
            rw [hl9] at ho9
            have O9 : Hid (OwG w9 (.slice ag9 (ng + 1) cg9) ((gs ++ [(x, y)]).map Pl.gv) F9) := by show Own _ _ _ _ _ _ _; rw [List.map_append]; exact ho9
            have I9 := hideP hi9
            have HB9 : Hid ((bb || x.bey 0 || y.bey 0) = (be || Pl.gsB (gs ++ [(x, y)]))) := by show _ = _; rw [Pl.gsB_app, HBB.out]; simp only [Bool.or_assoc]
            rw [hl9]
            clear ho9 hi9 hg9 hf9 hl9 OG5 IG5 O5 I5 P5 J5 B5 BA D1 D3 D13
            go_wp2_with fail
            go_roundw
            case rel => exact ⟨b5, gs ++ [(x, y)], F9, kk, ag9, ng + 1, cg9, bb || x.bey 0 || y.bey 0, rfl, by omega, hsb.2, by omega, HM9.out, by omega, B9, O9, I9, HY2, HB9⟩
            case measure => simp [hm1, hm9, intOf]; omega
          · have hns : ∀ r', r2 ≠ .sep :: r' := fun r' e => hs ((Pl.sep_lt HK.out b4).2 ⟨r', by rw [HR4.out, e]⟩)
            have HYN : Hid (Y = none) := by show _ = _; rw [HY.out, Pl.pb_col_no HX2.out HX3.out hns]; rfl
            rw [decide_eq_false hs] at k33
            clear HY hns HX2 HX3 HR4 K54 K52 K33 OG4 IG4 O4 I4 P4 J4 D1 D3 D13
            generalize Pl.sepA l b4 = b5 at *
            go_wp2_with fail
            refine k33.out.mono ?_
            rintro e w5 ⟨rfl, hP5, hg5⟩
            have B5 := B4.step hg5 hP5
            clear k33 hP5 hg5
            obtain ⟨_, _, _, _, _, z0, z1, z2, z3, zf⟩ := id B5
            have HE := hideP (B5.end_x (by omega) (.int .i64 0) (.string ⟨#[]⟩) (.slice none 0 0) (.slice none 0 0))
            clear B5 B4
            go_wp2_with fail
            refine bodyPost_ret (v := .tuple #[StV 0 ⟨#[]⟩ (.slice none 0 0) (.slice none 0 0), .bool false]) (by simp [results, Tryz.results61, go_sem, StV, z0, z1, z2, z3]) rfl (PoB.none_ HYN.out HE.out)
      · -- the end
        have hnc : ∀ r', r ≠ .col :: r' := fun r' e => hc ((Pl.sgn_at HK.out b2 (c := [58]) (by decide) Pl.tx_col).2 ⟨r', by rw [HR2.out, e]⟩)
        have HYE : Hid (Y = Pl.pbA gs (match Pl.rI l (Pl.sepA l b2) with | .rb :: r2 => some ([], x, r2) | _ => none)) := by
          show _ = _
          rw [HY.out, Pl.pb_end HX.out hnc, ← Pl.seps_T HK.out _ b2 (Nat.le_refl _), HR2.out]
          rfl
        rw [decide_eq_false hc, if_neg hc] at k52
        clear HX HY HR2 hnc hc K54
        go_wp2_with fail
        refine k52.out.mono ?_
        rintro e w3 ⟨rfl, hP3, hg3⟩
        have B3 := B2.step hg3 hP3
        obtain ⟨g3a, g3b⟩ := own_go Qg.lives OG2.out IG2.out (p := p) (by omega) hg3
        obtain ⟨g3c, g3d⟩ := own_go Qs.lives O1.out I1.out (p := p) (by omega) hg3
        have OG3 := hideP g3a
        have IG3 := hideP g3b
        have O3 := hideP g3c
        have I3 := hideP g3d
        clear g3a g3b g3c g3d OG2 IG2 O1 I1 B2 hP3 hg3 k52
        have k33 := hideP (K33.out w3 b2 _ B3 hb2)
        have hsb := Pl.sepA_le hb2
        generalize decide (b2 < Pl.sepA l b2) = bq at *
        generalize Pl.sepA l b2 = b4 at *
        go_wp2_with fail
        refine k33.out.mono ?_
        rintro e w4 ⟨rfl, hP4, hg4⟩
        have B4 := B3.step hg4 hP4
        obtain ⟨g4a, g4b⟩ := own_go Qg.lives OG3.out IG3.out (p := p) (by omega) hg4
        obtain ⟨g4c, g4d⟩ := own_go Qs.lives O3.out I3.out (p := p) (by omega) hg4
        have OG4 := hideP g4a
        have IG4 := hideP g4b
        have O4 := hideP g4c
        have I4 := hideP g4d
        clear g4a g4b g4c g4d OG3 IG3 O3 I3 B3 hP4 hg4 k33
        have k52 := hideP (K52.out w4 b4 _ ⟨#[125]⟩ B4 hsb.2)
        clear K52 K33
        by_cases hc : (Pl.tkAt l b4).tx = ⟨#[125]⟩
        · obtain ⟨r', hr'⟩ := (Pl.sgn_at HK.out b4 (c := [125]) (by decide) Pl.tx_rb).1 hc
          obtain ⟨hb4', hr4⟩ := Pl.rI_next hr'
          have HYS : Hid (Y = some (gs, x, r')) := by show _ = _; rw [HYE.out, hr']; simp [Pl.pbA]
          rw [decide_eq_true hc, if_pos hc] at k52
          have HR4 := hideP hr4
          clear hr' HYE hc hr4
          go_wp2_with fail
          refine k52.out.mono ?_
          rintro e w5 ⟨rfl, hP5, hg5⟩
          have B5 := B4.step hg5 hP5
          obtain ⟨g5a, g5b⟩ := own_go Qg.lives OG4.out IG4.out (p := p) (by omega) hg5
          obtain ⟨g5c, g5d⟩ := own_go Qs.lives O4.out I4.out (p := p) (by omega) hg5
          have G6 := own_set Qg.lives g5a g5b (q := w.heap.size) (Nat.lt_succ_self _) [.int .i64 3, .string nm, .slice a5 nc c5, .slice ag ng cg]
          have S6 := own_set Qs.lives g5c g5d (q := w.heap.size) (Nat.lt_succ_self _) [.int .i64 3, .string nm, .slice a5 nc c5, .slice ag ng cg]
          have E6 := B5.end_x (by omega) (.int .i64 3) (.string nm) (.slice a5 nc c5) (.slice ag ng cg)
          obtain ⟨_, _, _, _, _, z0, z1, z2, z3, zf⟩ := id B5
          have HP : Hid (PoB l p cap a ao be nm w Y (.returned (.tuple #[StV 3 nm (.slice a5 nc c5) (.slice ag ng cg), .bool true])) (w5.setCells w.heap.size 0 [.int .i64 3, .string nm, .slice a5 nc c5, .slice ag ng cg])) := by
            show PoB _ _ _ _ _ _ _ _ _ _ _
            rw [HYS.out]
            refine ⟨_, _, F1, F, b4 + 1, rfl, S6.1, G6.1, S6.2.up (Nat.le_succ _) (Nat.le_refl _), G6.2.up (Nat.le_succ _) (Nat.le_refl _), D1.out, ?_, hb4', by omega, HR4.out⟩
            rw [← HBB.out]
            exact E6
          clear G6 S6 E6 B5 B4 g5a g5b g5c g5d OG4 IG4 O4 I4 hP5 hg5 k52
          go_wp2_with fail
          refine bodyPost_ret (v := .tuple #[StV 3 nm (.slice a5 nc c5) (.slice ag ng cg), .bool true]) (by simp [results, Tryz.results61, go_sem, StV, z0, z1, z2, z3]) rfl HP.out
        · have HYN : Hid (Y = none) := by
            show _ = _
            rw [HYE.out]
            have hn : ∀ r', Pl.rI l b4 ≠ .rb :: r' := fun r' e => hc ((Pl.sgn_at HK.out b4 (c := [125]) (by decide) Pl.tx_rb).2 ⟨r', e⟩)
            split
            · rename_i h; exact absurd h (hn _)
            · rfl
          rw [decide_eq_false hc, if_neg hc] at k52
          clear HYE hc
          go_wp2_with fail
          refine k52.out.mono ?_
          rintro e w5 ⟨rfl, hP5, hg5⟩
          have B5 := B4.step hg5 hP5
          obtain ⟨_, _, _, _, _, z0, z1, z2, z3, zf⟩ := id B5
          have HE := hideP (B5.end_x (by omega) (.int .i64 3) (.string nm) (.slice a5 nc c5) (.slice ag ng cg))
          clear B5 B4 OG4 IG4 O4 I4 hP5 hg5 k52
          go_wp2_with fail
          refine bodyPost_ret (v := .tuple #[StV 3 nm (.slice a5 nc c5) (.slice ag ng cg), .bool false]) (by simp [results, Tryz.results61, go_sem, StV, z0, z1, z2, z3]) rfl (PoB.none_ HYN.out HE.out)
end Go.Proofs.YthhfpcdbgndioaaGreatDoor
