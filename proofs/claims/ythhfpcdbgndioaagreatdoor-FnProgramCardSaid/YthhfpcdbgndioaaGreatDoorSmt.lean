import Derived.Test.YthhfpcdbgndioaaGreatDoorBod
namespace Go.Proofs.YthhfpcdbgndioaaGreatDoor
open Go.RowKit
set_option linter.unusedVariables false
set_option maxRecDepth 100000
theorem PoS.none_ {l : List Pl.Itk} {p cap a : Nat} {ao : Option Addr} {be : Bool} {w w' : World} {Y : Option (Pl.S × List Pl.T)} {k : Int} {nm' : ByteArray} {a1 a2 : Option Addr} {n1 n2 c1 c2 a' : Nat} {be' : Bool} (hY : Y = none) (h : IxP l p cap ao 0 be' w a' w') : PoS l p cap a ao be w Y (.returned (.tuple #[StV k nm' (.slice a1 n1 c1) (.slice a2 n2 c2), .bool false])) w' := by
  subst hY
  exact ⟨k, nm', _, _, a', be', rfl, ⟨_, _, _, rfl⟩, ⟨_, _, _, rfl⟩, h⟩
theorem eq2 (t : ByteArray) : (t.toList == [58, 61]) = decide (t = ⟨#[58, 61]⟩) := by
  have e : ByteArray.toList ⟨#[58, 61]⟩ = [58, 61] := by rw [ByteArray.toList_eq]
  rw [← ba_eq, e]
theorem eqself (t : ByteArray) : (t.toList == [115, 101, 108, 102]) = decide (t = ⟨#[115, 101, 108, 102]⟩) := by
  have e : ByteArray.toList ⟨#[115, 101, 108, 102]⟩ = [115, 101, 108, 102] := by rw [ByteArray.toList_eq]
  rw [← ba_eq, e]
/-- a statement of code alone, laid into the box -/
theorem PoS.code_ {l : List Pl.Itk} {p cap a mb mo cp : Nat} {ao : Option Addr} {be bb : Bool} {w X : World} {s : Pl.S} {r : List Pl.T} {x : Pl.E} {k : Int} {nm : ByteArray} {a1 : Option Addr} {n1 c1 b : Nat} {F : List Nat} (hs : s.tv = ⟨k, nm.data.toList, x.code, []⟩) (hbe : (be || s.bey) = bb) (B : Bs w X l p cap ao mb mo cp b bb) (hO : OwS X (.slice a1 n1 c1) x.code F) (hI : Inb (w.heap.size + 1) X F) (hb : b ≤ l.length) (hl : l.length ≤ 1000000) (hab : a < b) (hr : Pl.rI l b = r) :
    PoS l p cap a ao be w (some (s, r)) (.returned (.tuple #[StV k nm (.slice a1 n1 c1) (.slice none 0 0), .bool true])) (X.setCells w.heap.size 0 [.int .i64 k, .string nm, .slice a1 n1 c1, .slice none 0 0]) := by
  have S6 := own_set Qs.lives hO hI (q := w.heap.size) (Nat.lt_succ_self _) [.int .i64 k, .string nm, .slice a1 n1 c1, .slice none 0 0]
  have E6 := B.end_x (by omega) (.int .i64 k) (.string nm) (.slice a1 n1 c1) (.slice none 0 0)
  refine ⟨.slice a1 n1 c1, .slice none 0 0, F, [], b, ?_, ?_, ?_, S6.2.up (Nat.le_succ _) (Nat.le_refl _), Inb.nil _ _, by simp, by rw [hbe]; exact E6, hb, hab, hr⟩
  · rw [hs]; rfl
  · rw [hs]; exact S6.1
  · rw [hs]; exact Own.nil _
/-- the box of a token -/
structure Tb (q : Nat) (X : World) (t : Pl.Itk) : Prop where
  lt : q < X.heap.size
  c0 : X.cell? ⟨q, 0, none⟩ = some (.int .i64 t.k)
  c1 : X.cell? ⟨q, 1, none⟩ = some (.string t.tx)
theorem Tb.go {q p : Nat} {X X' : World} {t : Pl.Itk} (h : Tb q X t) (hp : p ≠ q) (hg : X.grownBy X' (some p)) : Tb q X' t := by
  have e := hg.block q h.lt (fun e => by cases e; exact hp rfl)
  have g (j : Nat) : X'.cell? ⟨q, j, none⟩ = X.cell? ⟨q, j, none⟩ := World.cell?_of_block e
  exact ⟨Nat.lt_of_lt_of_le h.lt hg.size, (g 0).trans h.c0, (g 1).trans h.c1⟩
theorem Tb.new (X : World) (t : Pl.Itk) : Tb X.heap.size (X.alloc (.cells #[.int .i64 t.k, .string t.tx, .int .i64 t.v] 79)) t := ⟨by simp, by simp [go_sem], by simp [go_sem]⟩
theorem Pl.sgT_nn (l : List UInt8) : (∀ nm, Pl.sgT l ≠ .arr nm) ∧ (∀ nm, Pl.sgT l ≠ .fn nm) := by
  unfold Pl.sgT
  repeat (split; · exact ⟨nofun, nofun⟩)
  exact ⟨nofun, nofun⟩
theorem Pl.itT_nn {t : Pl.Itk} (h2 : ¬ t.k = 2) (h3 : ¬ t.k = 3) : (∀ nm, Pl.itT t ≠ .arr nm) ∧ (∀ nm, Pl.itT t ≠ .fn nm) := by
  unfold Pl.itT
  by_cases h1 : t.k = 1
  · rw [if_pos h1]
    exact ⟨nofun, nofun⟩
  · rw [if_neg h1, if_neg h2, if_neg h3]
    exact Pl.sgT_nn _
set_option maxHeartbeats 4000000 in
/-- (*impl.parser).stmt -/
theorem stmt_any (N : Nat) (l : List Pl.Itk) (p cap a mb mo cp : Nat) (ao : Option Addr) (be : Bool) (w : World) (hl : l.length ≤ 1000000) (ha : a ≤ l.length) (hn : 2 * l.length + 1 ≤ N) (hk : ∀ t ∈ l, Pl.iOk t) (hE : Ej w l p ao mb mo cp) (hP : Ps w p ao l.length cap a 0 be) :
    Calls Tryz.prog 33 #[.pointer (some ⟨p, 0, none⟩)] w (PoS l p cap a ao be w (Pl.pstmt N N (Pl.rI l a))) := by
  have K54 : Hid (∀ (X : World) (b : Nat) (bb : Bool), Bs w X l p cap ao mb mo cp b bb → b ≤ l.length → Calls Tryz.prog 59 #[.pointer (some ⟨p, 0, none⟩)] X (PoK l p cap b ao bb X (Pl.pexpr N (Pl.rI l b)))) := fun X b bb h hb => code_any N l p cap b mb mo cp ao bb X hl hb hn hk h.e h.ps
  have K52 : Hid (∀ (X : World) (b : Nat) (bb : Bool) (text : ByteArray), Bs w X l p cap ao mb mo cp b bb → b ≤ l.length → Calls Tryz.prog 57 #[.pointer (some ⟨p, 0, none⟩), .string text] X fun e w' => e = .returned (.bool (decide ((Pl.tkAt l b).tx = text))) ∧ Ps w' p ao l.length cap (if (Pl.tkAt l b).tx = text then b + 1 else b) 0 bb ∧ X.grownBy w' (some p)) := fun X b bb text h hb => sign_any l p cap b 0 ao bb text X (by omega) (by omega) h.ps (h.e.r.up (Nat.le_of_lt h.ps.lt))
  have K55 : Hid (∀ (X : World) (b : Nat) (bb : Bool), Bs w X l p cap ao mb mo cp b bb → b ≤ l.length → Calls Tryz.prog 60 #[.pointer (some ⟨p, 0, none⟩)] X fun e w' => e = .returned (.agg #[.int .i64 (Pl.tkAt l b).k, .string (Pl.tkAt l b).tx, .int .i64 (Pl.tkAt l b).v]) ∧ Ps w' p ao l.length cap (b + 1) 0 bb ∧ X.grownBy w' (some p)) := fun X b bb h hb => next_any l p cap b 0 ao bb X (by omega) (by omega) h.ps (h.e.r.up (Nat.le_of_lt h.ps.lt))
  have K56 : Hid (∀ (X : World) (b : Nat) (bb : Bool) (nm : ByteArray), Bs w X l p cap ao mb mo cp b bb → b ≤ l.length → Calls Tryz.prog 61 #[.pointer (some ⟨p, 0, none⟩), .string nm] X (PoB l p cap b ao bb nm X (Pl.pbody N N (Pl.seps (Pl.rI l b))))) := fun X b bb nm h hb => body_any N N l p cap b mb mo cp ao bb nm X hl hb hn (by omega) hk h.e h.ps
  have BS0 := hideP (Bs.new hE hP)
  have HK := hideP hk
  have k53 := hideP (look_any l p cap ao a 1 _ (by omega) (by omega) (by omega) BS0.out.ps.lt BS0.out.ps.c0 BS0.out.ps.c1 (BS0.out.e.r.up (Nat.le_of_lt BS0.out.ps.lt)))
  have hfd := field68 (Pl.tkAt l (a + 1)).k (Pl.tkAt l (a + 1)).v (Pl.tkAt l (a + 1)).tx
  have hq := eq2 (Pl.tkAt l (a + 1)).tx
  have HAS := hideP (Pl.sgn_at hk (a + 1) (c := [58, 61]) (by decide) Pl.tx_asg)
  have hpw : p < w.heap.size := hP.lt
  generalize hY : Pl.pstmt N N (Pl.rI l a) = Y at *
  have HY0 := hideP hY
  clear hE hP hk hY
  by_cases has : (Pl.tkAt l (a + 1)).tx = ⟨#[58, 61]⟩
  · -- a name
    obtain ⟨r1, hr1⟩ := HAS.out.1 has
    obtain ⟨ha1, hr2⟩ := Pl.rI_next hr1
    have HR : Hid (Pl.rI l a = Pl.itT (Pl.tkAt l a) :: .asg :: r1) := by show _ = _; rw [Pl.rI_cons (by omega), hr1]
    rw [decide_eq_true has] at hq
    have HR2 := hideP hr2
    clear HAS has hr1 hr2
    have k55 := hideP (fun X h => K55.out X a be h ha)
    have k55b := hideP (fun X h => K55.out X (a + 1) be h (by omega))
    clear K55
    generalize Pl.tkAt l (a + 1) = t1 at *
    generalize Pl.tkAt l a = t0 at *
    go_enter Tryz.func33, Tryz.ntmps33
    go_wp2_with fail
    refine k53.out.mono ?_
    rintro e w1 ⟨rfl, hb1⟩
    have B1 := BS0.out.keep hb1
    clear hb1 BS0 k53
    go_wp2_with fail
    refine (k55.out w1 B1).mono ?_
    rintro e w2 ⟨rfl, hP2, hg2⟩
    have B2 := B1.step hg2 hP2
    have hlw2 := B2.lt
    have C2 := B2.keep ((Below.refl _ _).alloc (Nat.le_refl _) (.cells #[.int .i64 t0.k, .string t0.tx, .int .i64 t0.v] 79))
    have T2 := Tb.new w2 t0
    clear B1 hP2 hg2 k55 B2
    go_wp2_with fail
    refine (k55b.out _ C2).mono ?_
    rintro e w3 ⟨rfl, hP3, hg3⟩
    have B3 := C2.step hg3 hP3
    have T3 := T2.go (p := p) (by omega) hg3
    have hq0 := T3.c0
    have hq1 := T3.c1
    have hlt3 := T3.lt
    generalize hqq : w2.heap.size = q at *
    clear C2 T2 hP3 hg3 k55b hqq
    by_cases h2 : t0.k = 2
    · -- an array
      have HY : Hid (Y = (Pl.pexpr N r1).map fun q => (.asg t0.tx.data.toList q.1, q.2)) := by
        show _ = _
        have e : Pl.itT t0 = .arr t0.tx.data.toList := by unfold Pl.itT; rw [h2]; rfl
        rw [← HY0.out, HR.out, e, Pl.ps_asg]
      rw [h2] at hq0
      have k54 := hideP (K54.out w3 (a + 1 + 1) be B3 (by omega))
      rw [HR2.out] at k54
      clear HR HY0 K54 K52 K56 h2
      cases hX : Pl.pexpr N r1 with
      | none =>
        rw [hX] at k54
        have HYN : Hid (Y = none) := by show _ = _; rw [HY.out, hX]; rfl
        clear hX HY
        go_wp2_with fail
        refine k54.out.mono ?_
        rintro e w4 ⟨a4, be4, rfl, hI4⟩
        have B4 := B3.step hI4.g hI4.ps
        have T4 := T3.go (p := p) (by omega) hI4.g
        have hq1 := T4.c1
        obtain ⟨_, _, _, _, _, z0, z1, z2, z3, zf⟩ := id B4
        have HE := hideP (B4.end_x hI4.le (.int .i64 2) (.string t0.tx) (.slice none 0 0) (.slice none 0 0))
        clear B4 hI4 k54 B3 T3 T4
        go_wp2_with fail
        refine bodyPost_ret (v := .tuple #[StV 2 t0.tx (.slice none 0 0) (.slice none 0 0), .bool false]) (by simp [results, Tryz.results33, go_sem, StV, z0, z1, z2, z3]) rfl (PoS.none_ HYN.out HE.out)
      | some qq =>
        obtain ⟨x, r⟩ := qq
        rw [hX] at k54
        have HYS : Hid (Y = some (.asg t0.tx.data.toList x, r)) := by show _ = _; rw [HY.out, hX]; rfl
        clear hX HY
        have hlw := B3.lt
        go_wp2_with fail
        refine k54.out.mono ?_
        rintro e w4 ⟨cv, F1, b4, rfl, hO4, hI4, hX4, hb4, hbb4, hr4⟩
        obtain ⟨a5, c5, rfl⟩ := hO4.slice
        have B4 := B3.step hX4.g hX4.ps
        have T4 := T3.go (p := p) (by omega) hX4.g
        have hq1 := T4.c1
        obtain ⟨_, _, _, _, _, z0, z1, z2, z3, zf⟩ := id B4
        generalize hnc : x.code.length = nc at hO4 ⊢
        have HP := hideP (PoS.code_ (a := a) (be := be) (s := .asg t0.tx.data.toList x) (k := 2) (nm := t0.tx) rfl rfl B4 hO4 (hI4.up (B' := w.heap.size + 1) (by omega) (Nat.le_refl _)) hb4 hl (by omega) hr4)
        clear B4 hO4 hI4 hX4 k54 B3 T3 T4 hr4
        go_wp2_with fail
        refine bodyPost_ret (v := .tuple #[StV 2 t0.tx (.slice a5 nc c5) (.slice none 0 0), .bool true]) (by simp [results, Tryz.results33, go_sem, StV, z0, z1, z2, z3]) rfl (by rw [HYS.out]; exact HP.out)
    · have h2' : (t0.k == 2) = false := by simpa using h2
      by_cases h3 : t0.k = 3
      · have e3 : Hid (Pl.itT t0 = .fn t0.tx.data.toList) := by show _ = _; unfold Pl.itT; rw [h3]; rfl
        have hes := eqself t0.tx
        by_cases hs : t0.tx = ⟨#[115, 101, 108, 102]⟩
        · -- self
          have HYN : Hid (Y = none) := by
            show _ = _
            have e : t0.tx.data.toList = Pl.selfW := by rw [hs]; rfl
            rw [← HY0.out, HR.out, e3.out, e]
            exact Pl.ps_self
          rw [decide_eq_true hs] at hes
          rw [h3] at hq0 h2'
          clear HY0 HR HR2 e3 hs h2 h3 K54 K52 K56
          obtain ⟨_, _, _, _, _, z0, z1, z2, z3, zf⟩ := id B3
          have HE := hideP (B3.end_x (by omega) (.int .i64 0) (.string ⟨#[]⟩) (.slice none 0 0) (.slice none 0 0))
          clear B3 T3
          go_wp2_with fail
          refine bodyPost_ret (v := .tuple #[StV 0 ⟨#[]⟩ (.slice none 0 0) (.slice none 0 0), .bool false]) (by simp [results, Tryz.results33, go_sem, StV, z0, z1, z2, z3]) rfl (PoS.none_ HYN.out HE.out)
        · rw [decide_eq_false hs] at hes
          have k52 := hideP (K52.out w3 (a + 1 + 1) be ⟨#[123]⟩ B3 (by omega))
          have hnsf : t0.tx.data.toList ≠ Pl.selfW := fun e => hs ((Pl.self_iff _).2 e)
          by_cases hc : (Pl.tkAt l (a + 1 + 1)).tx = ⟨#[123]⟩
          · obtain ⟨r2, hr2⟩ := (Pl.sgn_at HK.out (a + 1 + 1) (c := [123]) (by decide) Pl.tx_lb).1 hc
            obtain ⟨ha3, hr3⟩ := Pl.rI_next hr2
            have HY : Hid (Y = (Pl.pbody N N (Pl.seps r2)).map fun q => (.fn t0.tx.data.toList q.1 q.2.1, q.2.2)) := by
              show _ = _
              rw [← HY0.out, HR.out, e3.out, ← HR2.out, hr2, Pl.ps_fn hnsf]
            rw [decide_eq_true hc, if_pos hc] at k52
            rw [h3] at hq0 h2'
            have HR3 := hideP hr3
            clear HY0 HR HR2 e3 hs h2 h3 K54 K52 hc hr2 hr3
            go_wp2_with fail
            refine k52.out.mono ?_
            rintro e w4 ⟨rfl, hP4, hg4⟩
            have B4 := B3.step hg4 hP4
            have T4 := T3.go (p := p) (by omega) hg4
            have hq1 := T4.c1
            have k56 := hideP (K56.out w4 (a + 1 + 1 + 1) be t0.tx B4 ha3)
            rw [HR3.out] at k56
            have hlw4 := B4.lt
            clear K56 k52 B3 T3 hP4 hg4 hq0
            go_wp2_with fail
            refine k56.out.mono ?_
            intro e w5 hp5
            cases hX : Pl.pbody N N (Pl.seps r2) with
            | none =>
              rw [hX] at hp5
              have HYN : Hid (Y = none) := by show _ = _; rw [HY.out, hX]; rfl
              obtain ⟨k5, nm5, cc5, gg5, a5, be5, rfl, ⟨o1, n1, c1, rfl⟩, ⟨o2, n2, c2, rfl⟩, hI5⟩ := hp5
              have B5 := B4.step hI5.g hI5.ps
              obtain ⟨_, _, _, _, _, z0, z1, z2, z3, zf⟩ := id B5
              have HE := hideP (B5.end_x hI5.le (.int .i64 k5) (.string nm5) (.slice o1 n1 c1) (.slice o2 n2 c2))
              clear hX HY B5 B4 T4 hI5 k56 HR3
              simp only [StV]
              go_wp2_with fail
              refine bodyPost_ret (v := .tuple #[StV k5 nm5 (.slice o1 n1 c1) (.slice o2 n2 c2), .bool false]) (by simp [results, Tryz.results33, go_sem, StV, z0, z1, z2, z3]) rfl (PoS.none_ HYN.out HE.out)
            | some qq =>
              obtain ⟨gs, x, r⟩ := qq
              rw [hX] at hp5
              have HYS : Hid (Y = some (.fn t0.tx.data.toList gs x, r)) := by show _ = _; rw [HY.out, hX]; rfl
              obtain ⟨cc5, gg5, F1, F2, a5, rfl, hO5, hG5, hI5, hJ5, hD5, hX5, hle5, hlt5, hr5⟩ := hp5
              obtain ⟨o1, c1, rfl⟩ := hO5.slice
              obtain ⟨o2, c2, rfl⟩ := hG5.slice
              have B5 := B4.step hX5.g hX5.ps
              obtain ⟨_, _, _, _, _, z0, z1, z2, z3, zf⟩ := id B5
              generalize hn1 : x.code.length = n1 at hO5 ⊢
              generalize hn2 : (gs.map Pl.gv).length = n2 at hG5 ⊢
              have G6 := own_set Qg.lives hG5 (hJ5.up (B' := w.heap.size + 1) (by omega) (Nat.le_refl _)) (q := w.heap.size) (Nat.lt_succ_self _) [.int .i64 3, .string t0.tx, .slice o1 n1 c1, .slice o2 n2 c2]
              have S6 := own_set Qs.lives hO5 (hI5.up (B' := w.heap.size + 1) (by omega) (Nat.le_refl _)) (q := w.heap.size) (Nat.lt_succ_self _) [.int .i64 3, .string t0.tx, .slice o1 n1 c1, .slice o2 n2 c2]
              have E6 := B5.end_x (by omega) (.int .i64 3) (.string t0.tx) (.slice o1 n1 c1) (.slice o2 n2 c2)
              have HP : Hid (PoS l p cap a ao be w Y (.returned (.tuple #[StV 3 t0.tx (.slice o1 n1 c1) (.slice o2 n2 c2), .bool true])) (w5.setCells w.heap.size 0 [.int .i64 3, .string t0.tx, .slice o1 n1 c1, .slice o2 n2 c2])) := by
                show PoS _ _ _ _ _ _ _ _ _ _
                rw [HYS.out]
                refine ⟨_, _, F1, F2, a5, rfl, S6.1, G6.1, S6.2.up (Nat.le_succ _) (Nat.le_refl _), G6.2.up (Nat.le_succ _) (Nat.le_refl _), hD5, ?_, hle5, by omega, hr5⟩
                have hbe : (be || Pl.S.bey (.fn t0.tx.data.toList gs x)) = (be || Pl.gsB gs || x.bey 0) := by rw [Pl.S.bey, Bool.or_assoc]
                rw [hbe]
                exact E6
              clear hX HY B5 B4 T4 hO5 hG5 hI5 hJ5 hX5 k56 HR3 G6 S6 E6 hr5 hn1 hn2
              simp only [StV]
              go_wp2_with fail
              refine bodyPost_ret (v := .tuple #[StV 3 t0.tx (.slice o1 n1 c1) (.slice o2 n2 c2), .bool true]) (by simp [results, Tryz.results33, go_sem, StV, z0, z1, z2, z3]) rfl HP.out
          · have HYN : Hid (Y = none) := by
              show _ = _
              have hn : ∀ r', r1 ≠ .lb :: r' := fun r' e => hc ((Pl.sgn_at HK.out (a + 1 + 1) (c := [123]) (by decide) Pl.tx_lb).2 ⟨r', by rw [HR2.out, e]⟩)
              rw [← HY0.out, HR.out, e3.out, Pl.ps_fn_no hn]
            rw [decide_eq_false hc, if_neg hc] at k52
            rw [h3] at hq0 h2'
            clear HY0 HR HR2 e3 hs h2 h3 K54 K52 K56 hc
            go_wp2_with fail
            refine k52.out.mono ?_
            rintro e w4 ⟨rfl, hP4, hg4⟩
            have B4 := B3.step hg4 hP4
            clear k52 T3 hP4 hg4
            obtain ⟨_, _, _, _, _, z0, z1, z2, z3, zf⟩ := id B4
            have HE := hideP (B4.end_x (by omega) (.int .i64 0) (.string ⟨#[]⟩) (.slice none 0 0) (.slice none 0 0))
            clear B4 B3
            go_wp2_with fail
            refine bodyPost_ret (v := .tuple #[StV 0 ⟨#[]⟩ (.slice none 0 0) (.slice none 0 0), .bool false]) (by simp [results, Tryz.results33, go_sem, StV, z0, z1, z2, z3]) rfl (PoS.none_ HYN.out HE.out)
      · -- no name
        have h3' : (t0.k == 3) = false := by simpa using h3
        have HYN : Hid (Y = none) := by
          show _ = _
          have e := Pl.itT_nn h2 h3
          rw [← HY0.out, HR.out]
          exact Pl.ps_no e.1 e.2
        clear HY0 HR HR2 h2 h3 K54 K52 K56
        obtain ⟨_, _, _, _, _, z0, z1, z2, z3, zf⟩ := id B3
        have HE := hideP (B3.end_x (by omega) (.int .i64 0) (.string ⟨#[]⟩) (.slice none 0 0) (.slice none 0 0))
        clear B3 T3
        go_wp2_with fail
        refine bodyPost_ret (v := .tuple #[StV 0 ⟨#[]⟩ (.slice none 0 0) (.slice none 0 0), .bool false]) (by simp [results, Tryz.results33, go_sem, StV, z0, z1, z2, z3]) rfl (PoS.none_ HYN.out HE.out)
  · -- a value
    have HY : Hid (Y = (Pl.pexpr N (Pl.rI l a)).map fun q => (.val q.1, q.2)) := by
      show _ = _
      rw [← HY0.out]
      refine Pl.ps_val (fun t r e => has (HAS.out.2 ?_))
      obtain ⟨_, h2⟩ := Pl.rI_next e
      exact ⟨r, h2⟩
    rw [decide_eq_false has] at hq
    clear HY0 HAS has K52 K55 K56
    generalize Pl.tkAt l (a + 1) = t1 at *
    go_enter Tryz.func33, Tryz.ntmps33
    go_wp2_with fail
    refine k53.out.mono ?_
    rintro e w1 ⟨rfl, hb1⟩
    have B1 := BS0.out.keep hb1
    have k54 := hideP (K54.out w1 a be B1 ha)
    clear hb1 BS0 k53 K54
    cases hX : Pl.pexpr N (Pl.rI l a) with
    | none =>
      rw [hX] at k54
      have HYN : Hid (Y = none) := by show _ = _; rw [HY.out, hX]; rfl
      clear hX HY
      go_wp2_with fail
      refine k54.out.mono ?_
      rintro e w2 ⟨a2, be2, rfl, hI2⟩
      have B2 := B1.step hI2.g hI2.ps
      obtain ⟨_, _, _, _, _, z0, z1, z2, z3, zf⟩ := id B2
      have HE := hideP (B2.end_x hI2.le (.int .i64 1) (.string ⟨#[]⟩) (.slice none 0 0) (.slice none 0 0))
      clear B2 hI2 k54 B1
      go_wp2_with fail
      refine bodyPost_ret (v := .tuple #[StV 1 ⟨#[]⟩ (.slice none 0 0) (.slice none 0 0), .bool false]) (by simp [results, Tryz.results33, go_sem, StV, z0, z1, z2, z3]) rfl (PoS.none_ HYN.out HE.out)
    | some q =>
      obtain ⟨x, r⟩ := q
      rw [hX] at k54
      have HYS : Hid (Y = some (.val x, r)) := by show _ = _; rw [HY.out, hX]; rfl
      clear hX HY
      have hlw := B1.lt
      go_wp2_with fail
      refine k54.out.mono ?_
      rintro e w2 ⟨cv, F1, b2, rfl, hO1, hI1, hX2, hb2, hbb2, hr2⟩
      obtain ⟨a5, c5, rfl⟩ := hO1.slice
      have B2 := B1.step hX2.g hX2.ps
      obtain ⟨_, _, _, _, _, z0, z1, z2, z3, zf⟩ := id B2
      generalize hnc : x.code.length = nc at hO1 ⊢
      have HP := hideP (PoS.code_ (a := a) (be := be) (s := .val x) (k := 1) (nm := ⟨#[]⟩) rfl rfl B2 hO1 (hI1.up (B' := w.heap.size + 1) (by omega) (Nat.le_refl _)) hb2 hl hbb2 hr2)
      clear B2 hO1 hI1 hX2 k54 B1 hr2
      go_wp2_with fail
      refine bodyPost_ret (v := .tuple #[StV 1 ⟨#[]⟩ (.slice a5 nc c5) (.slice none 0 0), .bool true]) (by simp [results, Tryz.results33, go_sem, StV, z0, z1, z2, z3]) rfl (by rw [HYS.out]; exact HP.out)
end Go.Proofs.YthhfpcdbgndioaaGreatDoor
