import Derived.Test.YtljkolffjjhgeaaDoorIlx
namespace Go.Proofs.YtljkolffjjhgeaaDoor
open Go.RowKit
set_option linter.unusedVariables false
set_option maxRecDepth 100000
theorem Ps.op2 {w : World} {p n cap a o : Nat} {ao : Option Addr} {be : Bool} (h : Ps w p ao n cap a o be) (o2 : Nat) : Ps (w.setCell ⟨p, 2, none⟩ (.int .i64 o2)) p ao n cap a o2 be :=
  ⟨by simpa using h.lt, (World.cell?_setCell_other _ _ _ _ (by simp)).trans h.c0, (World.cell?_setCell_other _ _ _ _ (by simp)).trans h.c1, World.cell?_setCell_same _ _ _ h.c2, (World.cell?_setCell_other _ _ _ _ (by simp)).trans h.c3, fun j => by rw [World.frozen?_setCell]; exact h.fz j⟩
namespace Pl
/-- what stands in brackets -/
def pinb (n : Nat) (ts : List T) : Option (E × List T) := match pexpr n ts with
  | some (e, .rp :: r) => some (e, r)
  | _ => none
theorem pinb_none {n : Nat} {ts : List T} (h : pexpr n ts = none) : pinb n ts = none := by unfold pinb; rw [h]
theorem pinb_rp {n : Nat} {ts r : List T} {x : E} (h : pexpr n ts = some (x, .rp :: r)) : pinb n ts = some (x, r) := by unfold pinb; rw [h]
theorem pinb_no {n : Nat} {ts r : List T} {x : E} (h : pexpr n ts = some (x, r)) (hr : ¬ ∃ r', r = .rp :: r') : pinb n ts = none := by
  unfold pinb
  rw [h]
  cases r with
  | nil => rfl
  | cons t r' => cases t <;> first | rfl | exact absurd ⟨_, rfl⟩ hr
end Pl
theorem Inb.grown {B : Nat} {w w' : World} {F : List Nat} (h : Inb B w F) (hs : w.heap.size ≤ w'.heap.size) : Inb B w' F := h.up (Nat.le_refl _) hs
set_option maxHeartbeats 2000000 in
/-- (*impl.parser).inBrackets -/
theorem inBrackets_of (n : Nat) (H : HXe n) (l : List Pl.Itk) (p cap a o mb mo cp : Nat) (ao : Option Addr) (be : Bool) (w : World) (hl : l.length ≤ 1048576) (ha : a ≤ l.length) (ho : o + 1 + (l.length - a) ≤ 1048570) (hn : 2 * (l.length - a) + 1 ≤ n) (hk : ∀ t ∈ l, Pl.iOk t) (hE : Ej w l p ao mb mo cp) (hP : Ps w p ao l.length cap a o be) :
    Calls Tryd.prog 83 #[.pointer (some ⟨p, 0, none⟩)] w (PoX (fun x => be || (Pl.O.br x).bey o) l p cap a ao o w (Pl.pinb n (Pl.rI l a))) := by
  have hpl := hP.lt
  have KX : Hid (∀ b1, Calls Tryd.prog 69 #[.pointer (some ⟨p, 0, none⟩)] ((w.setCell ⟨p, 2, none⟩ (.int .i64 ((o + 1 : Nat) : Int))).setCell ⟨p, 3, none⟩ (.bool b1)) (PoX (fun x => b1 || x.bey (o + 1)) l p cap a ao (o + 1) ((w.setCell ⟨p, 2, none⟩ (.int .i64 ((o + 1 : Nat) : Int))).setCell ⟨p, 3, none⟩ (.bool b1)) (Pl.pexpr n (Pl.rI l a)))) := fun b1 =>
    H l p cap a (o + 1) mb mo cp ao b1 _ hl ha ho hn hk (hE.grown (Nat.le_of_lt hpl) (grown_one p 3 _ (grown_one p 2 _ (World.grownBy.refl w _)))) ((hP.op2 (o + 1)).be3 b1)
  have GW : Hid (∀ b1, w.grownBy ((w.setCell ⟨p, 2, none⟩ (.int .i64 ((o + 1 : Nat) : Int))).setCell ⟨p, 3, none⟩ (.bool b1)) (some p)) := fun b1 => grown_one p 3 _ (grown_one p 2 _ (World.grownBy.refl w _))
  have HEJ := hideP hE
  have HSG : Hid (∀ a', decide ((Pl.tkAt l a').tx = ⟨#[41]⟩) = match Pl.rI l a' with | t :: _ => decide (Pl.sgTx t = [41]) | [] => false) := fun a' => Pl.sign_T hk a' (c := [41]) (by decide)
  have KS : Hid (∀ (X : World) (a' : Nat) (b2 : Bool), Ej X l p ao mb mo cp → Ps X p ao l.length cap a' o b2 → a' ≤ 1048590 → Calls Tryd.prog 52 #[.pointer (some ⟨p, 0, none⟩), .string ⟨#[41]⟩] X fun e w' => e = .returned (.bool (decide ((Pl.tkAt l a').tx = ⟨#[41]⟩))) ∧ Ps w' p ao l.length cap (if (Pl.tkAt l a').tx = ⟨#[41]⟩ then a' + 1 else a') o b2 ∧ X.grownBy w' (some p)) := fun X a' b2 hE hP h => sign_any l p cap a' o ao b2 ⟨#[41]⟩ X hl h hP (hE.r.up (Nat.le_of_lt hP.lt))
  have HTL : Hid (∀ a', (Pl.rI l a').tail = Pl.rI l (a' + 1)) := fun a' => Pl.tail_rI l a'
  have HNL : Hid (∀ a' t r, Pl.rI l a' = t :: r → a' < l.length) := fun a' t r h => by
    by_cases h2 : a' < l.length
    · exact h2
    · rw [Pl.rI_past (by omega)] at h; cases h
  have c2 := hP.c2
  have c3 := hP.c3
  have cf := hP.fz
  have HPW := hideP hP
  clear hE hP H hk
  have KXb := KX
  have Y1 : Pl.pexpr n (Pl.rI l a) = none → Pl.pinb n (Pl.rI l a) = none := Pl.pinb_none
  have Y2 : ∀ x r, Pl.pexpr n (Pl.rI l a) = some (x, .rp :: r) → Pl.pinb n (Pl.rI l a) = some (x, r) := fun x r => Pl.pinb_rp
  have Y3 : ∀ x r, Pl.pexpr n (Pl.rI l a) = some (x, r) → (¬ ∃ r', r = .rp :: r') → Pl.pinb n (Pl.rI l a) = none := fun x r => Pl.pinb_no
  generalize Pl.pexpr n (Pl.rI l a) = X at *
  generalize Pl.pinb n (Pl.rI l a) = Y at *
  cases be
  · have K1 := KX.out (decide (40 < (o : Int) + 1))
    have G1 := hideP (GW.out (decide (40 < (o : Int) + 1)))
    have hz1 : ((w.setCell ⟨p, 2, none⟩ (.int .i64 ((o + 1 : Nat) : Int))).setCell ⟨p, 3, none⟩ (.bool (decide (40 < (o : Int) + 1)))).heap.size = w.heap.size := by simp
    rw [show ((o + 1 : Nat) : Int) = (o : Int) + 1 by omega] at K1 G1 hz1
    have HK1 := hideP K1
    clear K1 KX KXb GW
    cases X with
    | none =>
      obtain rfl := Y1 rfl
      clear Y1 Y2 Y3
      go_enter Tryd.func83, Tryd.ntmps83
      go_wp2_with fail
      refine HK1.out.mono ?_
      intro e' w2 hpo
      obtain ⟨v, a', be', rfl, hiv0, hx⟩ := hpo
      have hiv := hideP hiv0
      clear hiv0
      have q2 := hx.ps.c2
      have qf := hx.ps.fz
      have P2 := hideP (hx.ps.op2 o)
      have G2 := hideP (grown_one p 2 (.int .i64 (o : Int)) (G1.out.trans hx.g))
      have hle := hx.le
      clear hx HK1
      go_wp2_with fail
      refine bodyPost_ret (v := .tuple #[v, .bool false]) (by simp [results, Tryd.results83, go_sem]) rfl ⟨v, a', be', rfl, hiv.out, ⟨P2.out, G2.out, hle⟩⟩
    | some xr =>
      obtain ⟨x, r⟩ := xr
      by_cases hrp : ∃ r', r = .rp :: r'
      · obtain ⟨r', rfl⟩ := hrp
        obtain rfl := Y2 _ _ rfl
        clear Y1 Y2 Y3
        go_enter Tryd.func83, Tryd.ntmps83
        go_wp2_with fail
        refine HK1.out.mono ?_
        intro e' w2 hpo
        obtain ⟨v, F, a', rfl, hN, hI, hx, hal, haa, hr⟩ := hpo
        have HIV : Hid (IsN v) := .inr (NdE.form x v F hN)
        have q2 := hx.ps.c2
        have qf := hx.ps.fz
        have P2 := hideP (hx.ps.op2 o)
        have G2 := hideP (grown_one p 2 (.int .i64 (o : Int)) (G1.out.trans hx.g))
        rw [hz1] at hI
        have hpF : p ∉ F := fun hm => by have := (hI _ hm).1; omega
        have N2 := hideP (NdE.keep (w' := w2.setCell ⟨p, 2, none⟩ (.int .i64 (o : Int))) x v F hN (fun b hb => Below.heap_setCell _ _ _ _ (fun e => by have e2 : b = p := e; subst e2; exact hpF hb)))
        have I2 := hideP (hI.up (Nat.le_refl _) (by simp : w2.heap.size ≤ (w2.setCell ⟨p, 2, none⟩ (.int .i64 (o : Int))).heap.size))
        have E2 := hideP (HEJ.out.grown (Nat.le_of_lt hpl) G2.out)
        have hle := hx.le
        have K2 := hideP (KS.out _ a' _ E2.out P2.out hle)
        have hsg := HSG.out a'
        have htl := HTL.out a'
        have hnl := HNL.out a'
        rw [hr] at hsg htl hnl
        have HBE : Hid (((decide (40 < (o : Int) + 1)) || x.bey (o + 1)) = (false || (Pl.O.br x).bey o)) := by show _ = _; rw [Pl.O.bey]; rw [show decide (40 < (o : Int) + 1) = decide (40 < o + 1) by by_cases h : 40 < o + 1 <;> simp [h] <;> omega]; simp
        clear hx HK1 hN hI KS HSG HTL HNL
        have hlt := hnl _ _ rfl
        simp only [Pl.sgTx, decide_true] at hsg
        rw [hsg, if_pos (of_decide_eq_true hsg)] at K2
        go_wp2_with fail
        refine K2.out.mono ?_
        rintro e' w3 ⟨rfl, hP3, hg3⟩
        have N3 := hideP (NdE.keep (w' := w3) x v F N2.out (fun b hb => hg3.block b (I2.out b hb).2 (fun e => by cases e; exact hpF hb)))
        have FIN : Hid (NdE w3 x v F ∧ Inb w.heap.size w3 F ∧ IxP l p cap ao o (false || (Pl.O.br x).bey o) w (a' + 1) w3) := ⟨N3.out, I2.out.up (Nat.le_refl _) hg3.size, ⟨by rw [← HBE.out]; exact hP3, G2.out.trans hg3, by omega⟩⟩
        clear hP3 hg3 K2 N3
        go_wp2_with fail
        refine bodyPost_ret (v := .tuple #[v, .bool true]) (by simp [results, Tryd.results83, go_sem]) rfl ⟨v, F, a' + 1, rfl, FIN.out.1, FIN.out.2.1, FIN.out.2.2, by omega, by omega, htl.symm⟩
      · obtain rfl := Y3 _ _ rfl hrp
        clear Y1 Y2 Y3
        go_enter Tryd.func83, Tryd.ntmps83
        go_wp2_with fail
        refine HK1.out.mono ?_
        intro e' w2 hpo
        obtain ⟨v, F, a', rfl, hN, hI, hx, hal, haa, hr⟩ := hpo
        have HIV : Hid (IsN v) := .inr (NdE.form x v F hN)
        have q2 := hx.ps.c2
        have qf := hx.ps.fz
        have P2 := hideP (hx.ps.op2 o)
        have G2 := hideP (grown_one p 2 (.int .i64 (o : Int)) (G1.out.trans hx.g))
        rw [hz1] at hI
        have hpF : p ∉ F := fun hm => by have := (hI _ hm).1; omega
        have N2 := hideP (NdE.keep (w' := w2.setCell ⟨p, 2, none⟩ (.int .i64 (o : Int))) x v F hN (fun b hb => Below.heap_setCell _ _ _ _ (fun e => by have e2 : b = p := e; subst e2; exact hpF hb)))
        have I2 := hideP (hI.up (Nat.le_refl _) (by simp : w2.heap.size ≤ (w2.setCell ⟨p, 2, none⟩ (.int .i64 (o : Int))).heap.size))
        have E2 := hideP (HEJ.out.grown (Nat.le_of_lt hpl) G2.out)
        have hle := hx.le
        have K2 := hideP (KS.out _ a' _ E2.out P2.out hle)
        have hsg := HSG.out a'
        have htl := HTL.out a'
        have hnl := HNL.out a'
        rw [hr] at hsg htl hnl
        have HBE : Hid (((decide (40 < (o : Int) + 1)) || x.bey (o + 1)) = (false || (Pl.O.br x).bey o)) := by show _ = _; rw [Pl.O.bey]; rw [show decide (40 < (o : Int) + 1) = decide (40 < o + 1) by by_cases h : 40 < o + 1 <;> simp [h] <;> omega]; simp
        clear hx HK1 hN hI KS HSG HTL HNL
        have hsf : decide ((Pl.tkAt l a').tx = ⟨#[41]⟩) = false := by
          rw [hsg]
          cases r with
          | nil => rfl
          | cons t r' => cases t <;> first | rfl | exact absurd ⟨_, rfl⟩ hrp
        rw [hsf, if_neg (of_decide_eq_false hsf)] at K2
        go_wp2_with fail
        refine K2.out.mono ?_
        rintro e' w3 ⟨rfl, hP3, hg3⟩
        have FIN : Hid (IxP l p cap ao o ((decide (40 < (o : Int) + 1)) || x.bey (o + 1)) w a' w3) := ⟨hP3, G2.out.trans hg3, hle⟩
        clear hP3 hg3 K2
        go_wp2_with fail
        refine bodyPost_ret (v := .tuple #[v, .bool false]) (by simp [results, Tryd.results83, go_sem]) rfl ⟨v, a', _, rfl, HIV.out, FIN.out⟩
  · have K1 := KX.out (true)
    have G1 := hideP (GW.out (true))
    have hz1 : ((w.setCell ⟨p, 2, none⟩ (.int .i64 ((o + 1 : Nat) : Int))).setCell ⟨p, 3, none⟩ (.bool (true))).heap.size = w.heap.size := by simp
    rw [show ((o + 1 : Nat) : Int) = (o : Int) + 1 by omega] at K1 G1 hz1
    have HK1 := hideP K1
    clear K1 KX KXb GW
    cases X with
    | none =>
      obtain rfl := Y1 rfl
      clear Y1 Y2 Y3
      go_enter Tryd.func83, Tryd.ntmps83
      go_wp2_with fail
      refine HK1.out.mono ?_
      intro e' w2 hpo
      obtain ⟨v, a', be', rfl, hiv0, hx⟩ := hpo
      have hiv := hideP hiv0
      clear hiv0
      have q2 := hx.ps.c2
      have qf := hx.ps.fz
      have P2 := hideP (hx.ps.op2 o)
      have G2 := hideP (grown_one p 2 (.int .i64 (o : Int)) (G1.out.trans hx.g))
      have hle := hx.le
      clear hx HK1
      go_wp2_with fail
      refine bodyPost_ret (v := .tuple #[v, .bool false]) (by simp [results, Tryd.results83, go_sem]) rfl ⟨v, a', be', rfl, hiv.out, ⟨P2.out, G2.out, hle⟩⟩
    | some xr =>
      obtain ⟨x, r⟩ := xr
      by_cases hrp : ∃ r', r = .rp :: r'
      · obtain ⟨r', rfl⟩ := hrp
        obtain rfl := Y2 _ _ rfl
        clear Y1 Y2 Y3
        go_enter Tryd.func83, Tryd.ntmps83
        go_wp2_with fail
        refine HK1.out.mono ?_
        intro e' w2 hpo
        obtain ⟨v, F, a', rfl, hN, hI, hx, hal, haa, hr⟩ := hpo
        have HIV : Hid (IsN v) := .inr (NdE.form x v F hN)
        have q2 := hx.ps.c2
        have qf := hx.ps.fz
        have P2 := hideP (hx.ps.op2 o)
        have G2 := hideP (grown_one p 2 (.int .i64 (o : Int)) (G1.out.trans hx.g))
        rw [hz1] at hI
        have hpF : p ∉ F := fun hm => by have := (hI _ hm).1; omega
        have N2 := hideP (NdE.keep (w' := w2.setCell ⟨p, 2, none⟩ (.int .i64 (o : Int))) x v F hN (fun b hb => Below.heap_setCell _ _ _ _ (fun e => by have e2 : b = p := e; subst e2; exact hpF hb)))
        have I2 := hideP (hI.up (Nat.le_refl _) (by simp : w2.heap.size ≤ (w2.setCell ⟨p, 2, none⟩ (.int .i64 (o : Int))).heap.size))
        have E2 := hideP (HEJ.out.grown (Nat.le_of_lt hpl) G2.out)
        have hle := hx.le
        have K2 := hideP (KS.out _ a' _ E2.out P2.out hle)
        have hsg := HSG.out a'
        have htl := HTL.out a'
        have hnl := HNL.out a'
        rw [hr] at hsg htl hnl
        have HBE : Hid (((true) || x.bey (o + 1)) = (true || (Pl.O.br x).bey o)) := by show _ = _; rw [Pl.O.bey]; simp
        clear hx HK1 hN hI KS HSG HTL HNL
        have hlt := hnl _ _ rfl
        simp only [Pl.sgTx, decide_true] at hsg
        rw [hsg, if_pos (of_decide_eq_true hsg)] at K2
        go_wp2_with fail
        refine K2.out.mono ?_
        rintro e' w3 ⟨rfl, hP3, hg3⟩
        have N3 := hideP (NdE.keep (w' := w3) x v F N2.out (fun b hb => hg3.block b (I2.out b hb).2 (fun e => by cases e; exact hpF hb)))
        have FIN : Hid (NdE w3 x v F ∧ Inb w.heap.size w3 F ∧ IxP l p cap ao o (true || (Pl.O.br x).bey o) w (a' + 1) w3) := ⟨N3.out, I2.out.up (Nat.le_refl _) hg3.size, ⟨by rw [← HBE.out]; exact hP3, G2.out.trans hg3, by omega⟩⟩
        clear hP3 hg3 K2 N3
        go_wp2_with fail
        refine bodyPost_ret (v := .tuple #[v, .bool true]) (by simp [results, Tryd.results83, go_sem]) rfl ⟨v, F, a' + 1, rfl, FIN.out.1, FIN.out.2.1, FIN.out.2.2, by omega, by omega, htl.symm⟩
      · obtain rfl := Y3 _ _ rfl hrp
        clear Y1 Y2 Y3
        go_enter Tryd.func83, Tryd.ntmps83
        go_wp2_with fail
        refine HK1.out.mono ?_
        intro e' w2 hpo
        obtain ⟨v, F, a', rfl, hN, hI, hx, hal, haa, hr⟩ := hpo
        have HIV : Hid (IsN v) := .inr (NdE.form x v F hN)
        have q2 := hx.ps.c2
        have qf := hx.ps.fz
        have P2 := hideP (hx.ps.op2 o)
        have G2 := hideP (grown_one p 2 (.int .i64 (o : Int)) (G1.out.trans hx.g))
        rw [hz1] at hI
        have hpF : p ∉ F := fun hm => by have := (hI _ hm).1; omega
        have N2 := hideP (NdE.keep (w' := w2.setCell ⟨p, 2, none⟩ (.int .i64 (o : Int))) x v F hN (fun b hb => Below.heap_setCell _ _ _ _ (fun e => by have e2 : b = p := e; subst e2; exact hpF hb)))
        have I2 := hideP (hI.up (Nat.le_refl _) (by simp : w2.heap.size ≤ (w2.setCell ⟨p, 2, none⟩ (.int .i64 (o : Int))).heap.size))
        have E2 := hideP (HEJ.out.grown (Nat.le_of_lt hpl) G2.out)
        have hle := hx.le
        have K2 := hideP (KS.out _ a' _ E2.out P2.out hle)
        have hsg := HSG.out a'
        have htl := HTL.out a'
        have hnl := HNL.out a'
        rw [hr] at hsg htl hnl
        have HBE : Hid (((true) || x.bey (o + 1)) = (true || (Pl.O.br x).bey o)) := by show _ = _; rw [Pl.O.bey]; simp
        clear hx HK1 hN hI KS HSG HTL HNL
        have hsf : decide ((Pl.tkAt l a').tx = ⟨#[41]⟩) = false := by
          rw [hsg]
          cases r with
          | nil => rfl
          | cons t r' => cases t <;> first | rfl | exact absurd ⟨_, rfl⟩ hrp
        rw [hsf, if_neg (of_decide_eq_false hsf)] at K2
        go_wp2_with fail
        refine K2.out.mono ?_
        rintro e' w3 ⟨rfl, hP3, hg3⟩
        have FIN : Hid (IxP l p cap ao o ((true) || x.bey (o + 1)) w a' w3) := ⟨hP3, G2.out.trans hg3, hle⟩
        clear hP3 hg3 K2
        go_wp2_with fail
        refine bodyPost_ret (v := .tuple #[v, .bool false]) (by simp [results, Tryd.results83, go_sem]) rfl ⟨v, a', _, rfl, HIV.out, FIN.out⟩
end Go.Proofs.YtljkolffjjhgeaaDoor
