import Derived.Test.YtljkolffjjhgeaaDoorExz
import Derived.Test.YtljkolffjjhgeaaDoorSpw
namespace Go.Proofs.YtljkolffjjhgeaaDoor
open Go.RowKit
set_option linter.unusedVariables false
set_option maxRecDepth 100000
def Pl.PT (l : List Pl.Tok) (q : Nat × Nat) : List Pl.T := (Pl.pieceT l q).map Pl.tkT
theorem RowQ.cellK {b off cap : Nat} {w : World} : ∀ {xs : List Value} {qs : List (Nat × Nat)} {F : List Nat}, RowQ (Qk b off cap) w xs qs F → ∀ (i : Nat) (q : Nat × Nat), qs[i]? = some q → xs[i]? = some (.slice (some ⟨b, off + q.1 * 4, none⟩) (q.2 - q.1) (cap - q.1))
  | xs, [], F, h, i, q, hi => by simp at hi
  | xs, a :: qs, F, h, i, q, hi => by
    obtain ⟨x, xs', f, F', rfl, rfl, h1, h2⟩ := h
    obtain ⟨rfl, _⟩ := h1
    cases i with
    | zero => simp at hi; subst hi; rfl
    | succ i => exact h2.cellK i q hi
theorem Qk.cell {b off cap : Nat} {w : World} {v : Value} {qs : List (Nat × Nat)} {F : List Nat} (h : Own 28 1 (Qk b off cap) w v qs F) {i : Nat} {q : Nat × Nat} (hi : qs[i]? = some q) : ∃ g cp, v = .slice (some ⟨g, 0, none⟩) qs.length cp ∧ g < w.heap.size ∧ w.cell? ⟨g, i, none⟩ = some (.slice (some ⟨b, off + q.1 * 4, none⟩) (q.2 - q.1) (cap - q.1)) := by
  have hne : qs ≠ [] := by rintro rfl; simp at hi
  obtain ⟨g, cp, xs, fp, rfl, rfl, hl, hq, hnd, hlt, hc, _⟩ := h.cells hne
  exact ⟨g, cp, rfl, hlt, hc i _ (hq.cellK i q hi)⟩
theorem RdK.take {B : Nat} {w : World} {ao : Option Addr} {l : List Pl.Tok} (h : RdK B w ao l) (j : Nat) : RdK B w ao (l.take j) := by
  rcases h with rfl | ⟨b, off, hB, e, hc⟩
  · exact .inl (by simp)
  · refine .inr ⟨b, off, hB, e, fun k t hk => hc k t ?_⟩
    rw [List.getElem?_take] at hk
    split at hk
    · exact hk
    · cases hk
theorem RdK.drop {B : Nat} {w : World} {b off : Nat} {l : List Pl.Tok} (h : RdK B w (some ⟨b, off, none⟩) l) (i : Nat) : RdK B w (some ⟨b, off + i * 4, none⟩) (l.drop i) := by
  have := h.part i l.length
  rwa [List.take_length] at this
/-- the loop of l3Body -/
def Ib (l : List Pl.Tok) (n : Nat) (R : Option (List (Pl.E × Pl.E) × Pl.E)) (w : World) (p : Nat) (nm : ByteArray) (qs : List (Nat × Nat)) (b off cap : Nat) (pv : Value) (Fp : List Nat) (i : Nat) (wr : World) : Prop :=
  ∃ ac nc cc ag ng cg ok fi, Bo w p wr 3 nm ac nc cc ag ng cg ok fi ∧ ng ≤ i ∧ i ≤ qs.length ∧ Own 28 1 (Qk b off cap) wr pv qs Fp ∧ Inb (w.heap.size + 1) wr Fp ∧ p ∉ Fp ∧
   ((ok = false ∧ R = none ∧ ∃ (us : List Unit) (F : List Nat), us.length = ng ∧ Own 84 2 Qx wr (.slice ag ng cg) us F ∧ Inb (w.heap.size + 1) wr F ∧ p ∉ F ∧ ∀ x ∈ F, x ∉ Fp) ∨
    (ok = true ∧ i < qs.length ∧ ∃ (gs : List (Pl.E × Pl.E)) (F : List Nat), R = (Pl.rbd n ((qs.drop i).map (Pl.PT l))).map (fun q => (gs ++ q.1, q.2)) ∧ fi = Pl.gsF gs ∧ gs.length = ng ∧ OwG wr (.slice ag ng cg) (gs.map Pl.gv) F ∧ Inb (w.heap.size + 1) wr F ∧ p ∉ F ∧ ∀ x ∈ F, x ∉ Fp) ∨
    (ok = true ∧ i = qs.length ∧ ∃ (gs : List (Pl.E × Pl.E)) (e : Pl.E) (F F2 : List Nat), R = some (gs, e) ∧ fi = (Pl.gsF gs && e.fine) ∧ gs.length = ng ∧ nc = e.code.length ∧ OwG wr (.slice ag ng cg) (gs.map Pl.gv) F ∧ Inb (w.heap.size + 1) wr F ∧ OwS wr (.slice ac nc cc) e.code F2 ∧ Inb (w.heap.size + 1) wr F2 ∧ ∀ x ∈ F2, x ∉ F))
/-- what l3Read holds -/
def ReadR (B : Nat) (w : World) (v : Value) : Option Pl.S → Prop
  | none => ∃ k nm ac nc cc ag ng cg fi, v = .agg #[.int .i64 k, .string nm, .slice ac nc cc, .slice ag ng cg, .bool false, .bool fi]
  | some s => ∃ ac nc cc ag ng cg F G, v = .agg #[.int .i64 s.tv.k, .string (Pl.ba s.tv.nm), .slice ac nc cc, .slice ag ng cg, .bool true, .bool s.fine] ∧ OwS w (.slice ac nc cc) s.tv.code F ∧ OwG w (.slice ag ng cg) s.tv.gs G ∧ Inb B w F ∧ Inb B w G ∧ ∀ x ∈ F, x ∉ G
theorem ReadR.no (B : Nat) (w : World) : ReadR B w (.agg #[.int .i64 0, .string ⟨#[]⟩, .slice none 0 0, .slice none 0 0, .bool false, .bool false]) none := ⟨_, _, _, _, _, _, _, _, _, rfl⟩
theorem Qg.lenx {w : World} {x : List Value} {a : Unit} {f : List Nat} (h : Qx w x a f) : x.length = 2 ∧ ∀ u ∈ x, u.oneCell' = true := by
  obtain ⟨⟨a1, n1, c1, a2, n2, c2, rfl⟩, _⟩ := h
  refine ⟨rfl, fun u hu => ?_⟩
  simp only [List.mem_cons, List.not_mem_nil, or_false] at hu
  rcases hu with rfl | rfl <;> rfl
section
variable {l : List Pl.Tok} {n : Nat} {R : Option (List (Pl.E × Pl.E) × Pl.E)} {w : World} {p : Nat} {nm : ByteArray} {qs : List (Nat × Nat)} {b off cap : Nat} {pv : Value} {Fp : List Nat} {i : Nat} {wr w3 W : World}
/-- the state of l3Body behind i pieces -/
def Ibs (l : List Pl.Tok) (n : Nat) (R : Option (List (Pl.E × Pl.E) × Pl.E)) (w : World) (p : Nat) (qs : List (Nat × Nat)) (Fp : List Nat) (i : Nat) (wr : World) (ac : Option Addr) (nc cc : Nat) (ag : Option Addr) (ng cg : Nat) (ok fi : Bool) : Prop :=
  (ok = false ∧ R = none ∧ ∃ (us : List Unit) (F : List Nat), us.length = ng ∧ Own 84 2 Qx wr (.slice ag ng cg) us F ∧ Inb (w.heap.size + 1) wr F ∧ p ∉ F ∧ ∀ x ∈ F, x ∉ Fp) ∨
    (ok = true ∧ i < qs.length ∧ ∃ (gs : List (Pl.E × Pl.E)) (F : List Nat), R = (Pl.rbd n ((qs.drop i).map (Pl.PT l))).map (fun q => (gs ++ q.1, q.2)) ∧ fi = Pl.gsF gs ∧ gs.length = ng ∧ OwG wr (.slice ag ng cg) (gs.map Pl.gv) F ∧ Inb (w.heap.size + 1) wr F ∧ p ∉ F ∧ ∀ x ∈ F, x ∉ Fp) ∨
    (ok = true ∧ i = qs.length ∧ ∃ (gs : List (Pl.E × Pl.E)) (e : Pl.E) (F F2 : List Nat), R = some (gs, e) ∧ fi = (Pl.gsF gs && e.fine) ∧ gs.length = ng ∧ nc = e.code.length ∧ OwG wr (.slice ag ng cg) (gs.map Pl.gv) F ∧ Inb (w.heap.size + 1) wr F ∧ OwS wr (.slice ac nc cc) e.code F2 ∧ Inb (w.heap.size + 1) wr F2 ∧ ∀ x ∈ F2, x ∉ F)
/-- what is kept from wr to W, where only p is written -/
theorem keepP {α : Type} {et z : Nat} {Q : World → List Value → α → List Nat → Prop} (L : Lives Q) {v : Value} {c : List α} {F : List Nat} {B : Nat} (h : Own et z Q wr v c F) (hi : Inb B wr F) (hp : p ∉ F) (hb : Below wr.heap.size wr w3) (hT : w3.grownBy W (some p)) : Own et z Q W v c F ∧ Inb B W F :=
  ⟨(h.below L hi hb (Nat.le_refl _)).grown L (hi.up (Nat.le_refl _) hb.size) hT (fun x hx hm => by cases hx; exact hp hm), hi.up (Nat.le_refl _) (Nat.le_trans hb.size hT.size)⟩
theorem Ib.last {ac : Option Addr} {nc cc : Nat} {ag : Option Addr} {ng cg : Nat} {ok fi : Bool} {q : Nat × Nat} {a5 : Option Addr} {n5 c5 : Nat} {fr5 ne5 : Int} {ok5 lo5 ok' fi' : Bool} (hq : qs[i]? = some q) (hlast : i + 1 = qs.length) (hcut : Pl.cutc (Pl.PT l q) = none) (hng : ng ≤ i) (hs : Ibs l n R w p qs Fp i wr ac nc cc ag ng cg ok fi) (hO : Own 28 1 (Qk b off cap) wr pv qs Fp) (hI : Inb (w.heap.size + 1) wr Fp) (hpF : p ∉ Fp) (hpl : p < wr.heap.size) (hsz : w.heap.size < wr.heap.size)
    (hb : Below wr.heap.size wr w3) (hT : w3.grownBy W (some p)) (hcr : CodeR wr.heap.size w3 (.agg #[.slice a5 n5 c5, .int .i64 fr5, .bool ok5, .int .i64 ne5, .bool lo5]) ((Pl.rexpr n (Pl.PT l q)).map ofE)) (hB : Bo w p W 3 nm a5 n5 c5 ag ng cg ok' fi') (hok : ok' = (ok && ok5)) (hfi : fi' = (fi && (decide (ne5 ≤ 40) && !lo5))) :
    Ib l n R w p nm qs b off cap pv Fp (i + 1) W := by
  obtain ⟨hO', hI'⟩ := keepP (Qk.lives b off cap) hO hI hpF hb hT
  refine ⟨_, _, _, _, _, _, _, _, hB, by omega, by omega, hO', hI', hpF, ?_⟩
  have hdr : qs.drop i = [q] := by
    have hlt : i < qs.length := by omega
    rw [List.drop_eq_getElem_cons hlt, List.drop_eq_nil_of_le (by omega)]
    rw [List.getElem?_eq_getElem hlt] at hq
    rw [Option.some.inj hq]
  rcases hs with ⟨rfl, hR, us, F, h1, h2, h3, h4, h5⟩ | ⟨rfl, hlt, gs, F, hR, rfl, h1, h2, h3, h4, h5⟩ | ⟨_, he, _⟩
  · obtain ⟨k1, k2⟩ := keepP Qx.lives h2 h3 h4 hb hT
    exact .inl ⟨by rw [hok]; rfl, hR, us, F, h1, k1, k2, h4, h5⟩
  · obtain ⟨k1, k2⟩ := keepP Qg.lives h2 h3 h4 hb hT
    rw [hdr, List.map_cons, List.map_nil, Pl.rbd_last, hcut] at hR
    simp only at hR
    cases hx : Pl.rexpr n (Pl.PT l q) with
    | none =>
      rw [hx] at hcr hR
      obtain ⟨_, _, _, _, _, _, e5⟩ := hcr
      cases e5
      obtain ⟨F', f1, f2⟩ := k1.forget
      exact .inl ⟨by rw [hok]; rfl, hR, _, F', by simpa using h1, f1, fun x hx => k2 x (f2 x hx), fun hm => h4 (f2 _ hm), fun x hx => h5 x (f2 x hx)⟩
    | some e =>
      rw [hx] at hcr hR
      obtain ⟨a6, c6, F2, e5, g1, g2⟩ := hcr
      cases e5
      have hp2 : p ∉ F2 := fun hm => by have := (g2 _ hm).1; omega
      refine .inr (.inr ⟨by rw [hok]; rfl, by omega, gs, e, F, F2, by rw [hR]; simp, ?_, h1, rfl, k1, k2, g1.grown Qs.lives g2 hT (fun x hx hm => by cases hx; exact hp2 hm), fun x hx => ⟨by have := (g2 x hx).1; omega, Nat.lt_of_lt_of_le (g2 x hx).2 hT.size⟩, fun x hx hm => ?_⟩)
      · rw [hfi]
        unfold Pl.E.fine
        have : decide ((e.nest : Int) ≤ 40) = decide (e.nest ≤ 40) := by
          by_cases h : e.nest ≤ 40
          · rw [decide_eq_true h, decide_eq_true (by omega)]
          · rw [decide_eq_false h, decide_eq_false (by omega)]
        rw [this]
      · have := (g2 x hx).1
        have := (h3 x hm).2
        omega
  · omega
end
theorem fine_int (e : Pl.E) : (decide ((e.nest : Int) ≤ 40) && !e.long) = e.fine := by
  unfold Pl.E.fine
  have : decide ((e.nest : Int) ≤ 40) = decide (e.nest ≤ 40) := by
    by_cases h : e.nest ≤ 40
    · rw [decide_eq_true h, decide_eq_true (by omega)]
    · rw [decide_eq_false h, decide_eq_false (by omega)]
  rw [this]
theorem gsF_snoc (gs : List (Pl.E × Pl.E)) (x y : Pl.E) : Pl.gsF (gs ++ [(x, y)]) = (Pl.gsF gs && (x.fine && y.fine)) := by
  unfold Pl.gsF
  rw [List.all_append]
  simp
section
variable {l : List Pl.Tok} {n : Nat} {R : Option (List (Pl.E × Pl.E) × Pl.E)} {w : World} {p : Nat} {nm : ByteArray} {qs : List (Nat × Nat)} {b off cap : Nat} {pv : Value} {Fp : List Nat} {i : Nat} {wr w3 w4 Z : World}
theorem Ib.mid {ac : Option Addr} {nc cc : Nat} {ag : Option Addr} {ng cg : Nat} {ok fi : Bool} {q : Nat × Nat} {A B : List Pl.T} {a1 a2 : Option Addr} {n1 c1 n2 c2 : Nat} {fr1 ne1 fr2 ne2 : Int} {ok1 lo1 ok2 lo2 ok' fi' : Bool} {o3 : Obj} (hq : qs[i]? = some q) (hmid : i + 1 < qs.length) (hql : qs.length ≤ 1048577) (hcut : Pl.cutc (Pl.PT l q) = some (A, B)) (hng : ng ≤ i) (hs : Ibs l n R w p qs Fp i wr ac nc cc ag ng cg ok fi) (hO : Own 28 1 (Qk b off cap) wr pv qs Fp) (hI : Inb (w.heap.size + 1) wr Fp) (hpF : p ∉ Fp) (hpl : p < wr.heap.size) (hsz : w.heap.size < wr.heap.size)
    (hb3 : Below wr.heap.size wr w3) (hca : CodeR wr.heap.size w3 (.agg #[.slice a1 n1 c1, .int .i64 fr1, .bool ok1, .int .i64 ne1, .bool lo1]) ((Pl.rexpr n A).map ofE)) (hb4 : Below (w3.alloc o3).heap.size (w3.alloc o3) w4) (hcb : CodeR (w3.alloc o3).heap.size w4 (.agg #[.slice a2 n2 c2, .int .i64 fr2, .bool ok2, .int .i64 ne2, .bool lo2]) ((Pl.rexpr n B).map ofE)) (hT : w4.grownBy Z (some p)) (hB : Bo w p Z 3 nm ac nc cc ag ng cg ok' fi') (hok : ok' = (ok && ok1 && ok2)) (hfi : fi' = (fi && (decide (ne1 ≤ 40) && !lo1) && (decide (ne2 ≤ 40) && !lo2))) (ty : TypeId) :
    ∃ w' ag' cg', (Builtin.append_ #[35, 35] ty #[.slice ag ng cg, .slice (some ⟨Z.heap.size, 0, none⟩) 1 1]).run Tryd.prog (Z.alloc (.cells #[.slice a1 n1 c1, .slice a2 n2 c2] 84)) = .ok (.slice ag' (ng + 1) cg') w' ∧ Bo w p w' 3 nm ac nc cc ag ng cg ok' fi' ∧ Ib l n R w p nm qs b off cap pv Fp (i + 1) (w'.setCell ⟨p, 3, none⟩ (.slice ag' (ng + 1) cg')) := by
  have hbA : Below wr.heap.size wr w4 := hb3.trans (((Below.refl w3.heap.size w3).alloc (Nat.le_refl _) o3).mono hb3.size |>.trans (hb4.mono (by have := hb3.size; simp; omega)))
  have hbY : Below Z.heap.size Z (Z.alloc (.cells #[.slice a1 n1 c1, .slice a2 n2 c2] 84)) := (Below.refl _ _).alloc (Nat.le_refl _) _
  have hz3 := hb3.size
  have hz4 := hb4.size
  have hzZ := hT.size
  simp at hz4
  obtain ⟨hO1, hI1⟩ := keepP (Qk.lives b off cap) hO hI hpF hbA hT
  have hO2 := hO1.below (Qk.lives b off cap) hI1 hbY (Nat.le_refl _)
  have hI2 := hI1.up (Nat.le_refl _) hbY.size
  have hBY := hB.keep hbY
  have hcn : ∀ j u, [Value.slice a1 n1 c1, .slice a2 n2 c2][j]? = some u → (Z.alloc (.cells #[.slice a1 n1 c1, .slice a2 n2 c2] 84)).cell? ⟨Z.heap.size, 0 + j, none⟩ = some u := cells_new (l := [.slice a1 n1 c1, .slice a2 n2 c2]) rfl
  -- nothing is known of the guards
  have bad : ∀ (us : List Unit) (F : List Nat), R = none → ok' = false → us.length = ng → Own 84 2 Qx Z (.slice ag ng cg) us F → Inb (w.heap.size + 1) Z F → p ∉ F → (∀ x ∈ F, x ∉ Fp) → (∀ x ∈ F, x < wr.heap.size) → ∃ w' ag' cg', (Builtin.append_ #[35, 35] ty #[.slice ag ng cg, .slice (some ⟨Z.heap.size, 0, none⟩) 1 1]).run Tryd.prog (Z.alloc (.cells #[.slice a1 n1 c1, .slice a2 n2 c2] 84)) = .ok (.slice ag' (ng + 1) cg') w' ∧ Bo w p w' 3 nm ac nc cc ag ng cg ok' fi' ∧ Ib l n R w p nm qs b off cap pv Fp (i + 1) (w'.setCell ⟨p, 3, none⟩ (.slice ag' (ng + 1) cg')) := by
    intro us F hR hof hul h2 h3 h4 h5 h6
    obtain ⟨v', w', F', e1, e2, e3, e4, e5, e6⟩ := (h2.below Qx.lives h3 hbY (Nat.le_refl _)).append el35 Qx.lives (h3.up (Nat.le_refl _) hbY.size) (d := [()]) (G := []) (ys := [.slice a1 n1 c1, .slice a2 n2 c2]) (RowQ.one ⟨⟨_, _, _, _, _, _, rfl⟩, rfl⟩) (Inb.nil _ _) List.nodup_nil (by simp) rfl (b := Z.heap.size) (off := 0) (cap := 1) hcn (by simp [Value.oneCell']) (by simp; omega) (by simp; omega) ty
    obtain ⟨ag', cg', rfl⟩ := e2.slice
    rw [List.length_append, hul] at e1 e2
    have hown : ∀ x, (Value.slice ag ng cg).ownBlock = some x → x ∈ F := fun x hx => (h2.lt x hx).1
    have hp' : p ∉ F' := fun hm => by
      rcases e6 _ hm with h | h | h
      · exact h4 h
      · simp at h
      · simp at h; omega
    have hBw := hBY.grown e4 (fun x hx => ⟨(h3 x (hown x hx)).1, fun e => h4 (e ▸ hown x hx)⟩)
    obtain ⟨o1, i1⟩ := e2.box Qx.lives e3 hp' (j := 3) (.slice ag' (ng + 1) cg')
    have hOw := hO2.grown (Qk.lives b off cap) hI2 e4 (fun x hx => h5 x (hown x hx))
    obtain ⟨o2, i2⟩ := hOw.box (Qk.lives b off cap) (hI2.up (Nat.le_refl _) e4.size) hpF (j := 3) (.slice ag' (ng + 1) cg')
    refine ⟨w', ag', cg', e1, hBw, ⟨_, _, _, _, _, _, _, _, hBw.set3 ag' (ng + 1) cg', by omega, by omega, o2, i2, hpF, .inl ⟨hof, hR, us ++ [()], F', by rw [List.length_append, hul]; rfl, o1, i1, hp', fun x hx hm => ?_⟩⟩⟩
    rcases e6 _ hx with h | h | h
    · exact h5 x h hm
    · simp at h
    · have := (hI x hm).2; simp at h; omega
  have hdr : qs.drop i = q :: qs.drop (i + 1) := by
    have hlt : i < qs.length := by omega
    rw [List.drop_eq_getElem_cons hlt]
    rw [List.getElem?_eq_getElem hlt] at hq
    rw [Option.some.inj hq]
  obtain ⟨q2, rest, hd2⟩ : ∃ q2 rest, qs.drop (i + 1) = q2 :: rest := by
    rw [List.drop_eq_getElem_cons hmid]
    exact ⟨_, _, rfl⟩
  rcases hs with ⟨rfl, hR, us, F, h1, h2, h3, h4, h5⟩ | ⟨rfl, hlt, gs, F, hR, rfl, h1, h2, h3, h4, h5⟩ | ⟨_, he, _⟩
  · obtain ⟨k1, k2⟩ := keepP Qx.lives h2 h3 h4 hbA hT
    exact bad us F hR (by rw [hok]; rfl) h1 k1 k2 h4 h5 (fun x hx => (h3 x hx).2)
  · obtain ⟨k1, k2⟩ := keepP Qg.lives h2 h3 h4 hbA hT
    have hRc : Pl.rbd n ((qs.drop i).map (Pl.PT l)) = match Pl.rexpr n A, Pl.rexpr n B, Pl.rbd n ((qs.drop (i + 1)).map (Pl.PT l)) with | some x, some y, some (gs, e) => some ((x, y) :: gs, e) | _, _, _ => none := by
      rw [hdr, hd2, List.map_cons, List.map_cons, Pl.rbd_cons, hcut]
      rfl
    have badG : R = none → ok' = false → ∃ w' ag' cg', (Builtin.append_ #[35, 35] ty #[.slice ag ng cg, .slice (some ⟨Z.heap.size, 0, none⟩) 1 1]).run Tryd.prog (Z.alloc (.cells #[.slice a1 n1 c1, .slice a2 n2 c2] 84)) = .ok (.slice ag' (ng + 1) cg') w' ∧ Bo w p w' 3 nm ac nc cc ag ng cg ok' fi' ∧ Ib l n R w p nm qs b off cap pv Fp (i + 1) (w'.setCell ⟨p, 3, none⟩ (.slice ag' (ng + 1) cg')) := fun hRn hof => by
      obtain ⟨F', f1, f2⟩ := k1.forget
      exact bad _ F' hRn hof (by simpa using h1) f1 (fun x hx => k2 x (f2 x hx)) (fun hm => h4 (f2 _ hm)) (fun x hx => h5 x (f2 x hx)) (fun x hx => (h3 x (f2 x hx)).2)
    cases hA : Pl.rexpr n A with
    | none =>
      rw [hA] at hca
      obtain ⟨_, _, _, _, _, _, e5⟩ := hca
      cases e5
      exact badG (by rw [hR, hRc, hA]; rfl) (by rw [hok]; rfl)
    | some x =>
      rw [hA] at hca
      obtain ⟨a6, c6, F1, e5, g1, g2⟩ := hca
      cases e5
      cases hBx : Pl.rexpr n B with
      | none =>
        rw [hBx] at hcb
        obtain ⟨_, _, _, _, _, _, e6⟩ := hcb
        cases e6
        exact badG (by rw [hR, hRc, hA, hBx]; rfl) (by rw [hok]; rfl)
      | some y =>
        rw [hBx] at hcb
        obtain ⟨a7, c7, F2, e6, g3, g4⟩ := hcb
        cases e6
        have hb34 : Below w3.heap.size w3 w4 := ((Below.refl w3.heap.size w3).alloc (Nat.le_refl _) o3).trans (hb4.mono (by simp))
        have hp1 : p ∉ F1 := fun hm => by have := (g2 _ hm).1; omega
        have hp2 : p ∉ F2 := fun hm => by have := (g4 _ hm).1; simp at this; omega
        obtain ⟨m1, m2⟩ := keepP Qs.lives g1 g2 hp1 hb34 hT
        have m3 := g3.grown Qs.lives g4 hT (fun x hx hm => by cases hx; exact hp2 hm)
        have m4 := g4.up (Nat.le_refl _) hT.size
        have y1 := m1.below Qs.lives m2 hbY (Nat.le_refl _)
        have y3 := m3.below Qs.lives m4 hbY (Nat.le_refl _)
        have nd1 : F1.Nodup := by obtain ⟨_, _, _, _, _, h⟩ := g1; exact h
        have nd2 : F2.Nodup := by obtain ⟨_, _, _, _, _, h⟩ := g3; exact h
        obtain ⟨v', w', F', e1, e2, e3, e4, e5, e6⟩ := (k1.below Qg.lives k2 hbY (Nat.le_refl _)).append el35 Qg.lives (k2.up (Nat.le_refl _) hbY.size) (d := [⟨x.code, y.code⟩]) (G := F1 ++ F2) (ys := [.slice a1 x.code.length c1, .slice a2 y.code.length c2]) (RowQ.one ⟨_, _, F1, F2, rfl, rfl, y1, y3⟩)
          (fun z hz => by
            rcases List.mem_append.1 hz with h | h
            · have := m2 z h; simp; omega
            · have := m4 z h; simp at this ⊢; omega)
          (by
            rw [List.nodup_append]
            exact ⟨nd1, nd2, fun z hz z' hz' e => by subst e; have := (g2 z hz).2; have := (g4 z hz').1; simp at this; omega⟩)
          (fun z hz hm => by
            have := (h3 z hm).2
            rcases List.mem_append.1 hz with h | h
            · have := (g2 z h).1; omega
            · have := (g4 z h).1; simp at this; omega)
          rfl (b := Z.heap.size) (off := 0) (cap := 1) hcn (by simp [Value.oneCell']) (by simp; omega) (by simp; omega) ty
        obtain ⟨ag', cg', rfl⟩ := e2.slice
        rw [List.length_append, List.length_map, h1] at e1 e2
        have hown : ∀ x, (Value.slice ag ng cg).ownBlock = some x → x ∈ F := fun x hx => (h2.lt x hx).1
        have hp' : p ∉ F' := fun hm => by
          rcases e6 _ hm with h | h | h
          · exact h4 h
          · rcases List.mem_append.1 h with h | h
            · exact hp1 h
            · exact hp2 h
          · simp at h; omega
        have hBw := hBY.grown e4 (fun x hx => ⟨(h3 x (hown x hx)).1, fun e => h4 (e ▸ hown x hx)⟩)
        obtain ⟨o1, i1⟩ := e2.box Qg.lives e3 hp' (j := 3) (.slice ag' (ng + 1) cg')
        have hOw := hO2.grown (Qk.lives b off cap) hI2 e4 (fun x hx => h5 x (hown x hx))
        obtain ⟨o2, i2⟩ := hOw.box (Qk.lives b off cap) (hI2.up (Nat.le_refl _) e4.size) hpF (j := 3) (.slice ag' (ng + 1) cg')
        refine ⟨w', ag', cg', e1, hBw, ⟨_, _, _, _, _, _, _, _, hBw.set3 ag' (ng + 1) cg', by omega, by omega, o2, i2, hpF, .inr (.inl ⟨by rw [hok]; rfl, hmid, gs ++ [(x, y)], F', ?_, ?_, by rw [List.length_append, h1]; rfl, by rw [List.map_append]; exact o1, i1, hp', fun z hz' hm => ?_⟩)⟩⟩
        · rw [hR, hRc, hA, hBx]
          cases Pl.rbd n ((qs.drop (i + 1)).map (Pl.PT l)) with
          | none => rfl
          | some r => simp
        · rw [hfi, gsF_snoc, fine_int, fine_int, Bool.and_assoc]
        · have hz := (hI z hm).2
          rcases e6 _ hz' with h | h | h
          · exact h5 z h hm
          · rcases List.mem_append.1 h with h | h
            · have := (g2 z h).1; omega
            · have := (g4 z h).1; simp at this; omega
          · simp at h; omega
  · omega
theorem Ib.mid' {ac : Option Addr} {nc cc : Nat} {ag : Option Addr} {ng cg : Nat} {ok fi : Bool} {q : Nat × Nat} {A B : List Pl.T} {a1 a2 : Option Addr} {n1 c1 n2 c2 : Nat} {fr1 ne1 fr2 ne2 : Int} {ok1 lo1 ok2 lo2 ok' fi' : Bool} {o3 : Obj} (hq : qs[i]? = some q) (hmid : i + 1 < qs.length) (hql : qs.length ≤ 1048577) (hcut : Pl.cutc (Pl.PT l q) = some (A, B)) (hng : ng ≤ i) (hs : Ibs l n R w p qs Fp i wr ac nc cc ag ng cg ok fi) (hO : Own 28 1 (Qk b off cap) wr pv qs Fp) (hI : Inb (w.heap.size + 1) wr Fp) (hpF : p ∉ Fp) (hpl : p < wr.heap.size) (hsz : w.heap.size < wr.heap.size)
    (hb3 : Below wr.heap.size wr w3) (hca : CodeR wr.heap.size w3 (.agg #[.slice a1 n1 c1, .int .i64 fr1, .bool ok1, .int .i64 ne1, .bool lo1]) ((Pl.rexpr n A).map ofE)) (hb4 : Below (w3.alloc o3).heap.size (w3.alloc o3) w4) (hcb : CodeR (w3.alloc o3).heap.size w4 (.agg #[.slice a2 n2 c2, .int .i64 fr2, .bool ok2, .int .i64 ne2, .bool lo2]) ((Pl.rexpr n B).map ofE)) (hT : w4.grownBy Z (some p)) (hB : Bo w p Z 3 nm ac nc cc ag ng cg ok' fi') (hok : ok' = (ok && ok1 && ok2)) (hfi : fi' = (fi && (decide (ne1 ≤ 40) && !lo1) && (decide (ne2 ≤ 40) && !lo2))) (ty : TypeId) (zq : Nat) (hzq : zq = Z.heap.size) :
    ∃ w' ag' cg', (Builtin.append_ #[35, 35] ty #[.slice ag ng cg, .slice (some ⟨zq, 0, none⟩) 1 1]).run Tryd.prog (Z.alloc (.cells #[.slice a1 n1 c1, .slice a2 n2 c2] 84)) = .ok (.slice ag' (ng + 1) cg') w' ∧ Bo w p w' 3 nm ac nc cc ag ng cg ok' fi' ∧ Ib l n R w p nm qs b off cap pv Fp (i + 1) (w'.setCell ⟨p, 3, none⟩ (.slice ag' (ng + 1) cg')) := by
  subst hzq
  exact Ib.mid hq hmid hql hcut hng hs hO hI hpF hpl hsz hb3 hca hb4 hcb hT hB hok hfi ty
end
end Go.Proofs.YtljkolffjjhgeaaDoor
