import Derived.Test.YtfangdhbadmolaaGreatDoorBld
import Derived.Test.YtfangdhbadmolaaGreatDoorAct
import Derived.Test.YtfangdhbadmolaaGreatDoorLocks
import Derived.Conc.MuLone
import Derived.Maps.OwnSet
namespace Go.Proofs.YtfangdhbadmolaaGreatDoor
open Go.RowKit Go.Maps Go.MuLone
set_option linter.unusedVariables false

/-- how an element of the live map reads -/
def contElem (v : Value) : Option (DataW Unit × List MemPlace) :=
  match v with
  | .agg cs => (match cs.toList with | [.string s] => some (.lit (.string s.data.toList), []) | _ => none)
  | _ => none
theorem contElem_mk (s : ByteArray) : contElem (.agg #[.string s]) = some (.lit (.string s.data.toList), []) := rfl
theorem contElem_inv {v : Value} {z : DataW Unit × List MemPlace} (h : contElem v = some z) : ∃ s, v = .agg #[.string s] ∧ z = (.lit (.string s.data.toList), []) := by
  unfold contElem at h
  split at h
  · rename_i cs
    split at h
    · rename_i s hs
      injection h with h
      refine ⟨s, ?_, h.symm⟩
      obtain ⟨l⟩ := cs
      simp at hs
      rw [hs]
    · cases h
  · cases h

theorem law : Keyed Tryz.prog 9 := string_keyed Tryz.underlying9
theorem zeroE (w : World) : (zeroValue 68).run Tryz.prog w = .ok (.agg #[.string ByteArray.empty]) w := by kernel_rfl
theorem key_of {s : ByteArray} (h : s.size ≤ maxLen) : keyOf Tryz.prog 9 (.string s) = some (Pl.key s) := Go.WideMaps.keyOf_string_mk Tryz.underlying9 h

/-- block b is the live map of the files fs -/
def Lm (w : World) (b : Nat) (fs : List Pl.Fl) : Prop := w.ownsMap Tryz.prog 9 contElem b fs.length (Pl.mapOf fs)

theorem own_norm {w : World} {b n : Nat} {D : DataW Unit} (h : w.ownsMap Tryz.prog 9 contElem b n D) : w.ownsMap Tryz.prog 9 contElem b (Maps.size D) D := by
  obtain ⟨es, clock, hb, F, hs, rfl⟩ := h
  exact ⟨es, clock, hb, F, by rw [Maps.size_eq, length_read]; exact Nat.le_refl _, rfl⟩

theorem Lm.of {w : World} {b n : Nat} {fs : List Pl.Fl} (h : w.ownsMap Tryz.prog 9 contElem b n (Pl.mapOf fs)) : Lm w b fs := by
  have := own_norm h
  rw [Pl.size_eq'] at this
  exact this

theorem data_inj {s t : ByteArray} (h : s.data.toList = t.data.toList) : s = t := by
  cases s; cases t; simp at h ⊢; exact h

theorem Lm.look {w : World} {b : Nat} {fs : List Pl.Fl} {nm : ByteArray} (h : Lm w b fs) (hn : nm.size ≤ maxLen) :
    (Instr.lookup 66 (.map (some b)) (.string nm) false).run Tryz.prog w = .ok (.agg #[.string (Pl.dataF fs nm)]) w := by
  obtain ⟨v, ps, hrun, hv⟩ := h.lookup law Tryz.underlying66 (zeroE w) (contElem_mk ByteArray.empty) (key_of hn)
  obtain ⟨s, rfl, e⟩ := contElem_inv hv
  rw [hrun]
  have e1 := congrArg Prod.fst e
  simp only at e1
  have e2 : (Pl.mapOf fs).atKey (Pl.key nm) (.lit (.string [])) = .lit (.string s.data.toList) := e1
  have e3 := (Pl.atKey_eq fs nm).symm.trans e2
  simp only [DataW.lit.injEq, Lit.string.injEq] at e3
  have e4 : Pl.dataF fs nm = s := data_inj e3
  rw [e4]

theorem Lm.look_ok {w : World} {b : Nat} {fs : List Pl.Fl} {nm : ByteArray} (h : Lm w b fs) (hn : nm.size ≤ maxLen) :
    (Instr.lookup 66 (.map (some b)) (.string nm) true).run Tryz.prog w = .ok (.tuple #[.agg #[.string (Pl.dataF fs nm)], .bool (Pl.hasF fs nm)]) w := by
  obtain ⟨v, ps, hrun, hv⟩ := World.ownsMap.look_ok h law Tryz.underlying66 (zeroE w) (contElem_mk ByteArray.empty) (key_of hn)
  obtain ⟨s, rfl, e⟩ := contElem_inv hv
  rw [hrun, Pl.has_eq']
  have e1 := congrArg Prod.fst e
  simp only at e1
  have e2 : (Pl.mapOf fs).atKey (Pl.key nm) (.lit (.string [])) = .lit (.string s.data.toList) := e1
  have e3 := (Pl.atKey_eq fs nm).symm.trans e2
  simp only [DataW.lit.injEq, Lit.string.injEq] at e3
  have e4 : Pl.dataF fs nm = s := data_inj e3
  rw [e4]

theorem Lm.len {w : World} {b : Nat} {fs : List Pl.Fl} (h : Lm w b fs) (ty : TypeId) : (Builtin.len_ #[66] ty #[.map (some b)]).run Tryz.prog w = .ok (.int .i64 fs.length) w := by
  have := World.ownsMap.len h Tryz.underlying66 ty
  rw [Pl.size_eq'] at this
  exact this

theorem Lm.store {w : World} {b : Nat} {fs : List Pl.Fl} {nm d : ByteArray} (h : Lm w b fs) (hs : Pl.Srt fs) (hl : fs.length ≤ 1048576) (hn : nm.size ≤ maxLen) :
    ∃ w', (Instr.mapUpdate 66 (.map (some b)) (.string nm) (.agg #[.string d])).run Tryz.prog w = .ok () w' ∧ Lm w' b (Pl.withF fs (nm, d)) ∧ w.mapTurned w' b := by
  obtain ⟨w', hrun, ho, ht⟩ := World.ownsMap.store h law Tryz.underlying66 (by unfold maxLen; omega) (key_of hn) (contElem_mk d)
  refine ⟨w', hrun, ?_, ht⟩
  have e := Pl.put_eq fs (nm, d) hs
  simp only at e
  rw [e] at ho
  exact Lm.of ho

theorem Lm.drop {w : World} {b : Nat} {fs : List Pl.Fl} {nm : ByteArray} (h : Lm w b fs) (hn : nm.size ≤ maxLen) (ty : TypeId) :
    ∃ w', (Builtin.delete_ #[66, 9] ty #[.map (some b), .string nm]).run Tryz.prog w = .ok (.tuple #[]) w' ∧ Lm w' b (Pl.withoutF fs nm) ∧ w.mapTurned w' b := by
  obtain ⟨w', hrun, ho, ht⟩ := World.ownsMap.drop h law Tryz.underlying66 (key_of hn) ty
  refine ⟨w', hrun, ?_, ht⟩
  rw [Pl.del_eq] at ho
  exact Lm.of ho

theorem Lm.kept {w w' : World} {b : Nat} {fs : List Pl.Fl} {r : Option Nat} (h : Lm w b fs) (hg : w.grownBy w' r) (hne : some b ≠ r) : Lm w' b fs := World.ownsMap.kept h hg hne
theorem Lm.keep {w w' : World} {b : Nat} {fs : List Pl.Fl} (h : Lm w b fs) (hb : Below w.heap.size w w') : Lm w' b fs := h.kept (grown_of_below hb) (by simp)
theorem Lm.lt {w : World} {b : Nat} {fs : List Pl.Fl} (h : Lm w b fs) : b < w.heap.size := World.ownsMap.lt h

/-- a live disk: its struct at L, its map at b; the mutex as q says -/
structure Lv (L b : Nat) (q : Int) (fs : List Pl.Fl) (W : World) : Prop where
  lt : L < W.heap.size
  m : W.cell? ⟨L, 0, none⟩ = some (.int .i32 q)
  mf : W.frozen? ⟨L, 0, none⟩ = false
  p : W.cell? ⟨L, 2, none⟩ = some (.map (some b))
  own : Lm W b fs
  ne : ¬ L = b

theorem Lv.keep {L b : Nat} {q : Int} {fs : List Pl.Fl} {W W' : World} (h : Lv L b q fs W) (hb : Below W.heap.size W W') : Lv L b q fs W' :=
  ⟨Nat.lt_of_lt_of_le h.lt hb.size, (hb.cell (p := ⟨L, 0, none⟩) h.lt).trans h.m, (hb.frozen (p := ⟨L, 0, none⟩) h.lt).trans h.mf, (hb.cell (p := ⟨L, 2, none⟩) h.lt).trans h.p, h.own.keep hb, h.ne⟩

/-- the mutex is taken or given back -/
theorem Lv.lock {L b : Nat} {q q' : Int} {fs : List Pl.Fl} {W : World} (h : Lv L b q fs W) : Lv L b q' fs (W.setCell ⟨L, 0, none⟩ (.int .i32 q')) := by
  refine ⟨by simpa using h.lt, World.cell?_setCell_same _ _ _ h.m, by simp [go_sem, h.mf], ?_, ?_, h.ne⟩
  · rw [World.cell?_setCell_other _ _ _ _ (by intro e; injection e with _ e2 _; cases e2)]
    exact h.p
  · exact h.own.kept (grown_setCell W L 0 (.int .i32 q')) (fun e => h.ne (by injection e with e; exact e.symm))

/-- the map has turned -/
theorem Lv.turned {L b : Nat} {q : Int} {fs fs' : List Pl.Fl} {W W' : World} (h : Lv L b q fs W) (ho : Lm W' b fs') (ht : W.mapTurned W' b) : Lv L b q fs' W' := by
  have hg := ht.grown
  have e := hg.block L h.lt (fun e => h.ne (by injection e))
  exact ⟨Nat.lt_of_lt_of_le h.lt hg.size, (World.cell?_of_block (w := W) (a := ⟨L, 0, none⟩) e).trans h.m, (World.frozen?_of_block (w := W) (a := ⟨L, 0, none⟩) e).trans h.mf, (World.cell?_of_block (w := W) (a := ⟨L, 2, none⟩) e).trans h.p, ho, h.ne⟩

end Go.Proofs.YtfangdhbadmolaaGreatDoor
