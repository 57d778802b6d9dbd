import Derived.Test.YtaopohihipihdaaGreatDoorMon2
import Derived.Test.YtaopohihipihdaaGreatDoorArP
import Derived.Test.YtaopohihipihdaaGreatDoorArT
import Derived.Test.YtaopohihipihdaaGreatDoorDa1
import Derived.Test.YtaopohihipihdaaGreatDoorDa5
namespace Go.Proofs.YtaopohihipihdaaGreatDoor
open Go.RowKit
set_option linter.unusedVariables false

/-- laws.lwIs of equal arrays -/
theorem lwIs_yes (v0 v1 v2 v3 : Value) (sh da : List Int) (w : World) (hl0 : sh.length ≤ 1048576) (hl1 : da.length ≤ 1048576) (h0 : Rd w.heap.size w v0 sh) (h1 : Rd w.heap.size w v1 da) (h2 : Rd w.heap.size w v2 sh) (h3 : Rd w.heap.size w v3 da) :
    Calls Tryz.prog 10 #[.agg #[v0, v1], .int .i64 0, .agg #[v2, v3]] w fun e w' => e = .returned (.bool true) ∧ Below w.heap.size w w' := by
  have B : Hid (∀ o o', Below w.heap.size w ((w.alloc o).alloc o')) := fun o o' => ((Below.refl _ _).alloc (Nat.le_refl _) _).alloc (by simp) _
  have K0 : Hid (∀ w', Below w.heap.size w w' → Calls Tryz.prog 27 #[.agg #[v0, v1], .agg #[v2, v3]] w' fun e w'' => e = .returned (.bool true) ∧ Below w'.heap.size w' w'') := fun w' hb => same_yes v0 v1 v2 v3 sh da w' hl0 hl1 ((h0.keep hb).up hb.size) ((h1.keep hb).up hb.size) ((h2.keep hb).up hb.size) ((h3.keep hb).up hb.size)
  obtain ⟨a0, c0, e0⟩ := h0.form
  obtain ⟨a1, c1, e1⟩ := h1.form
  obtain ⟨a2, c2, e2⟩ := h2.form
  obtain ⟨a3, c3, e3⟩ := h3.form
  subst e0 e1 e2 e3
  clear h0 h1 h2 h3
  generalize sh.length = L0 at *
  generalize da.length = L1 at *
  go_enter Tryz.func10, Tryz.ntmps10
  go_wp2_with fail
  refine (K0.out _ (B.out _ _)).mono ?_
  rintro e w1 ⟨rfl, hb1⟩
  have B1 := hideP ((B.out _ _).trans (hb1.mono (by simp; omega)))
  clear hb1
  go_wp2_with fail
  go_ret
  exact ⟨rfl, B1.out⟩

end Go.Proofs.YtaopohihipihdaaGreatDoor

namespace Go.Proofs.YtaopohihipihdaaGreatDoor
open Go.RowKit
set_option linter.unusedVariables false

theorem grade_face (a0 : Option Addr) (k0 : Nat) (a1 : Option Addr) (k1 : Nat) (sh da : List Int) (w : World) (hl0 : sh.length ≤ 1048576) (hl1 : da.length ≤ 1048576) (h0 : Rd w.heap.size w (.slice a0 sh.length k0) sh) (h1 : Rd w.heap.size w (.slice a1 da.length k1) da) (c : Int) (S D : List Int) (hres : Pl.mo8 Pl.gradeM 6 sh da = (c, S, D)) :
    Calls Tryz.prog 8 #[.int .i64 6, .agg #[.slice a0 sh.length k0, .slice a1 da.length k1]] w (FPost w c S D) :=
  monad_faceA 6 Pl.gradeM a0 k0 a1 k1 sh da w hl0 hl1 h0 h1 c S D hres (fun k e _ _ ok e2 w' hb => by
    obtain rfl : k = 6 := by omega
    exact grade_any _ _ sh da w' ok ((h0.keep hb).up hb.size) ((h1.keep hb).up hb.size) c S D e2)
theorem count_face (a0 : Option Addr) (k0 : Nat) (a1 : Option Addr) (k1 : Nat) (sh da : List Int) (w : World) (hl0 : sh.length ≤ 1048576) (hl1 : da.length ≤ 1048576) (h0 : Rd w.heap.size w (.slice a0 sh.length k0) sh) (h1 : Rd w.heap.size w (.slice a1 da.length k1) da) (hok : Pl.okB sh da = true) :
    Calls Tryz.prog 8 #[.int .i64 7, .agg #[.slice a0 sh.length k0, .slice a1 da.length k1]] w (FPost w 0 [] [(Pl.axesS sh da).getD 0 0]) :=
  monad_faceA 7 (fun sh da => (0, [], [(Pl.axesS sh da).getD 0 0])) a0 k0 a1 k1 sh da w hl0 hl1 h0 h1 0 [] [(Pl.axesS sh da).getD 0 0] (Pl.mo8_yes ⟨by decide, by decide, hok⟩) (fun k e _ _ ok e2 w' hb => by
    obtain rfl : k = 7 := by omega
    exact count_any _ _ sh da w' ((h0.keep hb).up hb.size) ((h1.keep hb).up hb.size))
theorem rev_face (a0 : Option Addr) (k0 : Nat) (a1 : Option Addr) (k1 : Nat) (sh da : List Int) (w : World) (hl0 : sh.length ≤ 1048576) (hl1 : da.length ≤ 1048576) (h0 : Rd w.heap.size w (.slice a0 sh.length k0) sh) (h1 : Rd w.heap.size w (.slice a1 da.length k1) da) (q0 : sh.length ≤ k0 ∧ (0 < sh.length → k0 ≤ 9223372036854775807)) (q1 : da.length ≤ k1 ∧ (0 < da.length → k1 ≤ 9223372036854775807)) (c : Int) (S D : List Int) (hres : Pl.mo8 Pl.revM 4 sh da = (c, S, D)) :
    Calls Tryz.prog 8 #[.int .i64 4, .agg #[.slice a0 sh.length k0, .slice a1 da.length k1]] w (FPost w c S D) :=
  monad_faceA 4 Pl.revM a0 k0 a1 k1 sh da w hl0 hl1 h0 h1 c S D hres (fun k e _ _ ok e2 w' hb => by
    obtain rfl : k = 4 := by omega
    exact rev_any a0 k0 a1 k1 sh da w' ((h0.keep hb).up hb.size) ((h1.keep hb).up hb.size) q0.1 q0.2 q1.1 q1.2 ok c S D e2)
theorem flip_face (a0 : Option Addr) (k0 : Nat) (a1 : Option Addr) (k1 : Nat) (sh da : List Int) (w : World) (hl0 : sh.length ≤ 1048576) (hl1 : da.length ≤ 1048576) (h0 : Rd w.heap.size w (.slice a0 sh.length k0) sh) (h1 : Rd w.heap.size w (.slice a1 da.length k1) da) (q0 : sh.length ≤ k0 ∧ (0 < sh.length → k0 ≤ 9223372036854775807)) (c : Int) (S D : List Int) (hres : Pl.mo8 Pl.flipM 5 sh da = (c, S, D)) :
    Calls Tryz.prog 8 #[.int .i64 5, .agg #[.slice a0 sh.length k0, .slice a1 da.length k1]] w (FPost w c S D) :=
  monad_faceA 5 Pl.flipM a0 k0 a1 k1 sh da w hl0 hl1 h0 h1 c S D hres (fun k e _ _ ok e2 w' hb => by
    obtain rfl : k = 5 := by omega
    exact flip_any a0 k0 a1 k1 sh da w' ((h0.keep hb).up hb.size) ((h1.keep hb).up hb.size) q0.1 q0.2 ok c S D e2)
theorem drop_face (a0 : Option Addr) (k0 : Nat) (a1 : Option Addr) (k1 : Nat) (a2 : Option Addr) (k2 : Nat) (a3 : Option Addr) (k3 : Nat) (sa da sb db : List Int) (w : World) (hl0 : sa.length ≤ 1048576) (hl1 : da.length ≤ 1048576) (hl2 : sb.length ≤ 1048576) (hl3 : db.length ≤ 1048576) (h0 : Rd w.heap.size w (.slice a0 sa.length k0) sa) (h1 : Rd w.heap.size w (.slice a1 da.length k1) da) (h2 : Rd w.heap.size w (.slice a2 sb.length k2) sb) (h3 : Rd w.heap.size w (.slice a3 db.length k3) db) (hk2 : sb.length ≤ k2) (hk2' : k2 ≤ 9223372036854775807) (hk3 : db.length ≤ k3) (hk3' : 0 < db.length → k3 ≤ 9223372036854775807) (c : Int) (S D : List Int) (hres : Pl.dy8 Pl.dropM 3 sa da sb db = (c, S, D)) :
    Calls Tryz.prog 11 #[.int .i64 3, .agg #[.slice a0 sa.length k0, .slice a1 da.length k1], .agg #[.slice a2 sb.length k2, .slice a3 db.length k3]] w (FPost w c S D) :=
  dyad_faceA 3 Pl.dropM a0 k0 a1 k1 a2 k2 a3 k3 sa da sb db w hl0 hl1 hl2 hl3 h0 h1 h2 h3 c S D hres (fun k e _ _ oka okb e2 w' hb => by
    obtain rfl : k = 3 := by omega
    exact drop_any a0 k0 a1 k1 a2 k2 a3 k3 sa da sb db w' ((h0.keep hb).up hb.size) ((h1.keep hb).up hb.size) ((h2.keep hb).up hb.size) ((h3.keep hb).up hb.size) hk2 hk2' hk3 hk3' oka okb c S D e2)
theorem from_face (a0 : Option Addr) (k0 : Nat) (a1 : Option Addr) (k1 : Nat) (a2 : Option Addr) (k2 : Nat) (a3 : Option Addr) (k3 : Nat) (sa da sb db : List Int) (w : World) (hl0 : sa.length ≤ 1048576) (hl1 : da.length ≤ 1048576) (hl2 : sb.length ≤ 1048576) (hl3 : db.length ≤ 1048576) (h0 : Rd w.heap.size w (.slice a0 sa.length k0) sa) (h1 : Rd w.heap.size w (.slice a1 da.length k1) da) (h2 : Rd w.heap.size w (.slice a2 sb.length k2) sb) (h3 : Rd w.heap.size w (.slice a3 db.length k3) db) (hk2 : sb.length ≤ k2) (hk2' : k2 ≤ 9223372036854775807) (hk3 : db.length ≤ k3) (hk3' : 0 < db.length → k3 ≤ 9223372036854775807) (c : Int) (S D : List Int) (hres : Pl.dy8 Pl.fromM 5 sa da sb db = (c, S, D)) :
    Calls Tryz.prog 11 #[.int .i64 5, .agg #[.slice a0 sa.length k0, .slice a1 da.length k1], .agg #[.slice a2 sb.length k2, .slice a3 db.length k3]] w (FPost w c S D) :=
  dyad_faceA 5 Pl.fromM a0 k0 a1 k1 a2 k2 a3 k3 sa da sb db w hl0 hl1 hl2 hl3 h0 h1 h2 h3 c S D hres (fun k e _ _ oka okb e2 w' hb => by
    obtain rfl : k = 5 := by omega
    exact from_any a0 k0 a1 k1 a2 k2 a3 k3 sa da sb db w' ((h0.keep hb).up hb.size) ((h1.keep hb).up hb.size) ((h2.keep hb).up hb.size) ((h3.keep hb).up hb.size) hk2 hk2' hk3 hk3' oka okb c S D e2)
theorem cat_face (a0 : Option Addr) (k0 : Nat) (a1 : Option Addr) (k1 : Nat) (a2 : Option Addr) (k2 : Nat) (a3 : Option Addr) (k3 : Nat) (sa da sb db : List Int) (w : World) (hl0 : sa.length ≤ 1048576) (hl1 : da.length ≤ 1048576) (hl2 : sb.length ≤ 1048576) (hl3 : db.length ≤ 1048576) (h0 : Rd w.heap.size w (.slice a0 sa.length k0) sa) (h1 : Rd w.heap.size w (.slice a1 da.length k1) da) (h2 : Rd w.heap.size w (.slice a2 sb.length k2) sb) (h3 : Rd w.heap.size w (.slice a3 db.length k3) db)
    (z0 : ∃ g, a0 = some ⟨g, 0, none⟩) (hk0 : sa.length ≤ k0 ∧ k0 ≤ 9223372036854775807) (z2 : ∃ g, a2 = some ⟨g, 0, none⟩) (hk2 : sb.length ≤ k2 ∧ k2 ≤ 9223372036854775807) (z1 : 0 < da.length → ∃ g, a1 = some ⟨g, 0, none⟩) (z3 : 0 < db.length → ∃ g, a3 = some ⟨g, 0, none⟩) (n m : Int) (ha : sa = [n]) (hb' : sb = [m]) (c : Int) (S D : List Int) (hres : Pl.dy8 Pl.catM 4 sa da sb db = (c, S, D)) :
    Calls Tryz.prog 11 #[.int .i64 4, .agg #[.slice a0 sa.length k0, .slice a1 da.length k1], .agg #[.slice a2 sb.length k2, .slice a3 db.length k3]] w (FPost w c S D) := by
  obtain ⟨b0, rfl⟩ := z0
  obtain ⟨b2, rfl⟩ := z2
  refine dyad_faceA 4 Pl.catM _ k0 a1 k1 _ k2 a3 k3 sa da sb db w hl0 hl1 hl2 hl3 h0 h1 h2 h3 c S D hres (fun k e _ _ oka okb e2 w' hb => ?_)
  obtain rfl : k = 4 := by omega
  have la : sa.length = 1 := by rw [ha]; rfl
  have lb : sb.length = 1 := by rw [hb']; rfl
  have fa : ∀ (s d : List Int) (x : Int), Pl.okB s d = true → s = [x] → 0 ≤ s.getD 0 0 ∧ s.getD 0 0 ≤ 1000 := fun s d x ok es => by
    subst es
    have hb := (Pl.ok_len ok).2
    simp only [Pl.fitsB, Pl.baseB, Bool.and_eq_true, List.all_cons] at hb
    exact Pl.inR_bd hb.1.2.1
  exact cat_vec b0 k0 a1 k1 b2 k2 a3 k3 sa da sb db w' ((h0.keep hb).up hb.size) ((h1.keep hb).up hb.size) ((h2.keep hb).up hb.size) ((h3.keep hb).up hb.size) hk0 hk2 z1 z3 (by omega) (by omega) (by omega) (by omega) (by omega) (by omega) (by omega) (Pl.ok_max oka).2 (Pl.ok_max okb).2 (fa sa da n oka ha) (fa sb db m okb hb') c S D e2

end Go.Proofs.YtaopohihipihdaaGreatDoor
