import Derived.Test.YtbmkbplgncoapaaDoorBu
import Derived.Deep.RegionHeld3
import Derived.Deep.Cut
namespace Go.Proofs.YtbmkbplgncoapaaDoor
open Go.RowKit
set_option linter.unusedVariables false

/-- a text that grows: in block b it holds the bytes l -/
abbrev Tx (B b : Nat) (l : List UInt8) (w : World) : Prop := Lib.IsBuilderF 86 5 B b (Lib.byteCells l) w
theorem Tx.keep {B b : Nat} {l : List UInt8} {w w' : World} (h : Tx B b l w) (hb : Below w.heap.size w w') : Tx B b l w' := by
  have key : ∀ p, Lib.BuilderAtF 86 5 B b p (Lib.byteCells l) w → Lib.BuilderAtF 86 5 B b p (Lib.byteCells l) w' := fun p hp => by
    have hlt := hp.lt
    obtain ⟨hB, v, hbk, hown, hne⟩ := hp
    refine ⟨hB, v, (hb.block b hlt).trans hbk, hown.kept (grown_of_below hb) ?_, hne⟩
    cases v.ownBlock <;> simp
  rcases h with h | h
  · exact .inl (key _ h)
  · exact .inr (key _ h)
theorem Tx.new (w : World) : Tx w.heap.size w.heap.size [] (w.alloc (.cells #[.pointer none, .slice none 0 0] 86)) := Lib.IsBuilderF.of (Lib.fresh_isBuilder 86 5 w)
theorem Tx.lt {B b : Nat} {l : List UInt8} {w : World} (h : Tx B b l w) : B ≤ b ∧ b < w.heap.size := by
  rcases h with h | h
  · exact ⟨h.1, h.lt⟩
  · exact ⟨h.1, h.lt⟩

/-- what add leaves -/
def AdPost (B b : Nat) (l : List UInt8) (w : World) (e : Ending) (w' : World) : Prop :=
  e = .returned (.tuple #[]) ∧ Tx B b l w' ∧ Below B w w' ∧ Lib.OthersKept 5 (some b) w w'

theorem cells_app (l : List UInt8) (s : ByteArray) : Lib.byteCells l ++ Lib.strCells s = Lib.byteCells (l ++ s.data.toList) := by simp [Lib.byteCells, Lib.strCells]
theorem cells_one (l : List UInt8) (c : UInt8) (ci : Int) (h : ci = c.toNat) : Lib.byteCells l ++ [.int .u8 ci] = Lib.byteCells (l ++ [c]) := by simp [Lib.byteCells, h]

set_option maxRecDepth 100000 in
set_option maxHeartbeats 4000000 in
/-- (*lines).add -/
theorem add_any (B b g cap : Nat) (l : List UInt8) (xs : List ByteArray) (w : World) (h : Tx B b l w) (hB : B ≤ w.heap.size) (hg : g < w.heap.size) (hcap : xs.length ≤ cap) (hx : xs.length ≤ 100)
    (hc : ∀ (j : Nat) x, xs[j]? = some x → w.cell? ⟨g, j, none⟩ = some (.string x)) (hlen : l.length + (Lib.join (xs.map (·.data.toList)) [32]).length ≤ 1000000) :
    Calls Tryd.prog 62 #[.pointer (some ⟨b, 0, none⟩), .slice (some ⟨g, 0, none⟩) xs.length cap] w (AdPost B b (l ++ Lib.join (xs.map (·.data.toList)) [32] ++ [10]) w) := by
  have KJ : Hid (∀ W, Below w.heap.size w W → Calls Tryd.prog 90 #[.slice (some ⟨g, 0, none⟩) xs.length cap, .string ⟨#[32]⟩] W fun e w' => e = .returned (.string ⟨(Lib.join (xs.map (·.data.toList)) [32]).toArray⟩) ∧ Below W.heap.size W w') := fun W hW =>
    Tryd.strings_Join g 0 cap xs ⟨#[32]⟩ W (fun j x hj => by rw [Nat.zero_add]; exact (hW.cell (p := ⟨g, j, none⟩) hg).trans (hc j x hj)) (Nat.lt_of_lt_of_le hg hW.size) (by omega) hcap (by show (Lib.join (xs.map (·.data.toList)) [32]).length ≤ _; omega)
  have H := hideP h
  have DW : Hid (Below w.heap.size w w.drew) := (Below.refl _ _).drew
  clear h hc
  generalize hj : Lib.join (xs.map (·.data.toList)) [32] = jt at *
  have hsz : (⟨jt.toArray⟩ : ByteArray).size = jt.length := by show jt.toArray.size = _; simp
  have hdat : (⟨jt.toArray⟩ : ByteArray).data.toList = jt := rfl
  obtain ⟨js, hjs⟩ : ∃ js : ByteArray, (⟨jt.toArray⟩ : ByteArray) = js := ⟨_, rfl⟩
  rw [hjs] at KJ hsz hdat
  clear hj hjs
  obtain ⟨n, hn⟩ : ∃ n, xs.length = n := ⟨_, rfl⟩
  rw [hn] at KJ ⊢
  clear hn hcap hx
  go_enter Tryd.func62, Tryd.ntmps62
  go_wp2_with fail
  refine wp_region_held (S := fun w' => True) (by kernel_rfl) ?_
  change wpAnyH _ _ _ _ _ _ _ _ (World.drew _)
  generalize World.drew w = wd at DW ⊢
  refine wpAnyH_take (i := 0) (v := .pointer (some ⟨b, 0, none⟩)) rfl (by kernel_rfl) (by kernel_rfl) (by kernel_rfl) (fun _ _ _ h => h) (Or.inl ⟨by rfl, ?_⟩) trivial ?_
  · intro w' hS
    clear hS
    go_simp
  refine wpAnyH_take (i := 1) (v := .pointer (some ⟨b, 0, none⟩)) rfl (by kernel_rfl) (by kernel_rfl) (by kernel_rfl) (fun _ _ _ h => h) (Or.inl ⟨by rfl, ?_⟩) trivial ?_
  · intro w' hS
    clear hS
    go_simp
  refine wpAnyH_take (i := 2) (v := .pointer (some ⟨b, 0, none⟩)) rfl (by kernel_rfl) (by kernel_rfl) (by kernel_rfl) (fun _ _ _ h => h) (Or.inl ⟨by rfl, ?_⟩) trivial ?_
  · intro w' hS
    clear hS
    go_simp
  refine wpAnyH_take (i := 3) (v := .slice (some ⟨g, 0, none⟩) n cap) rfl (by kernel_rfl) (by kernel_rfl) (by kernel_rfl) (fun _ _ _ h => h) (Or.inl ⟨by rfl, ?_⟩) trivial ?_
  · intro w' hS
    clear hS
    go_simp
  refine wpAnyH_ready (rs := [4]) (by kernel_rfl) (by simp) ?_
  refine AllReadyH.cons rfl (fun K hK => ?_) AllReadyH.nil
  go_simp
  refine (KJ.out wd DW.out).mono ?_
  rintro e w1 ⟨rfl, hb1⟩
  have B1 := hideP (DW.out.trans (hb1.mono DW.out.size))
  have T1 := hideP (H.out.keep B1.out)
  clear hb1
  refine hK.out _ _ trivial (fun _ => ?_)
  clear hK
  refine wpAnyH_ready (rs := [5]) (by kernel_rfl) (by simp) ?_
  refine AllReadyH.cons rfl (fun K hK => ?_) AllReadyH.nil
  go_simp
  refine (writeString_any B b (Lib.byteCells l) js w1 T1.out (by rw [Lib.byteCells_length, hsz]; omega) (Nat.le_trans hB B1.out.size)).mono ?_
  rintro e w2 ⟨rfl, h2, hb2, hk2⟩
  have T2 : Hid (Tx B b (l ++ jt) w2) := by
    rw [cells_app, hdat] at h2
    exact .inr h2
  have B2 := hideP ((B1.out.mono hB).trans hb2)
  have K2 := hideP (((Lib.OthersKept.refl 5 (some b) w).below B1.out).trans hk2)
  clear h2 hb2 hk2
  refine hK.out _ _ trivial (fun _ => ?_)
  clear hK
  refine wpAnyH_done (by kernel_rfl) ?_ _
  go_wp2_with fail
  refine (writeByte_any B b (Lib.byteCells (l ++ jt)) 10 _ T2.out (by rw [Lib.byteCells_length, List.length_append]; omega) (Nat.le_trans hB B2.out.size)).mono ?_
  rintro e w3 ⟨rfl, h3, hb3, hk3⟩
  have T3 : Hid (Tx B b (l ++ jt ++ [10]) w3) := by
    rw [cells_one (l ++ jt) 10 10 rfl] at h3
    exact .inr h3
  have B3 := hideP (B2.out.trans hb3)
  have K3 := hideP (K2.out.trans hk3)
  clear h3 hb3 hk3
  go_wp2_with fail
  go_end0
  exact ⟨rfl, T3.out, B3.out, K3.out⟩

end Go.Proofs.YtbmkbplgncoapaaDoor
