import Derived.Test.YtmobjomebmipdaaLawS
import Derived.Test.YtmobjomebmipdaaFaceS
import Derived.Test.YtmobjomebmipdaaSpecS
import Derived.Test.YtmobjomebmipdaaArgs
namespace Go.Proofs.Ytmobjomebmipdaa
open Go.ChangeShapes Go.WideShapes Go.ChangeAt Go.RowKit
set_option linter.unusedVariables false

theorem scan_len (op : Int) (sh da : List Int) : (sh.length ≤ 1048576 → (Pl.scaM op sh da).2.1.length ≤ 1048576) ∧ (da.length ≤ 1048576 → (Pl.scaM op sh da).2.2.length ≤ 1048576) := by
  unfold Pl.scaM Pl.moM
  split
  · rename_i h
    obtain ⟨h0, h1⟩ := Pl.ok_max h.2.2
    unfold Pl.scanM
    split
    · simp
    · rename_i hsl
      split
      · refine ⟨fun h => h, fun _ => ?_⟩
        have hb := Pl.begD_len (Pl.twoM op) da (Pl.prodC sh.tail).toNat (sh.getD 0 0).toNat
        have hr : sh.all Pl.inR = true := by
          have := (Pl.ok_len h.2.2).2
          simp only [Pl.fitsB, Pl.baseB, Bool.and_eq_true] at this
          exact this.1.2
        have hx := Pl.inR_bd (Pl.all_getD hr (show 0 < sh.length by omega))
        have hrt : sh.tail.all Pl.inR = true := by
          simp only [List.all_eq_true] at hr ⊢
          exact fun x hx => hr x (List.mem_of_mem_tail hx)
        have hp := Pl.prodC_bd sh.tail hrt
        have := Nat.mul_le_mul (show (sh.getD 0 0).toNat ≤ 1000 by omega) (show (Pl.prodC sh.tail).toNat ≤ 1001 by omega)
        exact Nat.le_trans hb (by omega)
      · simp
  · simp

theorem scan_law (op : Int) (v0 v1 : Value) (sh da : List Int) (w : World) (m0 : sh.length ≤ 9223372036854775807) (m1 : da.length ≤ 9223372036854775807) (h0 : Rd w.heap.size w v0 sh) (h1 : Rd w.heap.size w v1 da) :
    Calls Try.prog 9 #[.int .i64 op, .agg #[v0, v1]] w fun e w' => e = .returned (.bool true) ∧ Below w.heap.size w w' :=
  lawS op v0 v1 sh da (Pl.scaM op sh da).1 (Pl.scaM op sh da).2.1 (Pl.scaM op sh da).2.2 w m0 m1 h0 h1 (scan_len op sh da).1 (scan_len op sh da).2
    (fun x0 x1 w' l0 l1 r0 r1 => specS_face op x0 x1 sh da w' l0 l1 r0 r1 _ _ _ rfl) (fun x0 x1 w' l0 l1 r0 r1 => scan_face op x0 x1 sh da w' l0 l1 r0 r1 _ _ _ rfl)

set_option maxRecDepth 100000 in
theorem scan_lifted (os : Os) (started : os.Started) (H : Type) (enc : TypeId × Value → H) :
    ReturnsInHanded {} Try.checked os 9 .any (Rows.fnExactScanSpec.pre6 enc Try.prog Try.f9 Rows.fnExactScanRow.domain false) (Rows.fnExactScanSpec.post enc Try.prog Try.f9 false true false false) := by
  refine returnsInHanded_of_change (C := Try.checked) Try.own started (by kernel_rfl) Try.func9
    (ChangeSpec.witness6 (enc := enc) (C := Try.checked) false ⟨#[], #[.int .i64 0, .agg #[.slice none 0 0, .slice none 0 0]], []⟩ 8 (by kernel_rfl) (by kernel_rfl) (by kernel_rfl) (by kernel_rfl)) ?_
  intro W base args ds gs before hval0 hW hcnd _
  have hval : ∀ (j : Nat) t v, Try.f9.params[j]? = some t → args[j]? = some v → Value.okWide Try.prog W .any base t v := hval0
  have hW' := hW
  obtain ⟨p, q, hA0, hV, rfl, hfz, hnd⟩ := hW
  have hA : DataW.TrodAll enc Try.prog W 0 (fun _ => true) true Try.f9.params.toList args.toList ds p := hA0
  rw [Try.params9] at hA hval
  obtain ⟨v0, vs0, d0, ds0, p0, q0, hargs, rfl, rfl, h0, r0⟩ := trodAll_cons hA
  obtain ⟨v1, vs1, d1, ds1, p1, q1, rfl, rfl, rfl, h1, r1⟩ := trodAll_cons r0
  obtain ⟨rfl, rfl, rfl⟩ := trodAll_nil r1
  obtain rfl : args = #[v0, v1] := by cases args; simp_all
  obtain ⟨rfl, rfl⟩ := trodVars_none hV
  obtain ⟨op, rfl, rfl, rfl, w0⟩ := open_int Try.underlying3 (hval 0 3 v0 rfl rfl) h0
  have k1 := h1
  have lt1 : ∀ x ∈ p1, x.block < W.heap.size := by obtain ⟨m, hm⟩ := k1; exact DataW.trod_lt m _ _ _ hm
  obtain ⟨u0, u1, sh, da, rfl, l0, l1, rd0, rd1⟩ := arr_open (hval 1 24 v1 rfl rfl) h1
  clear hA0 hval0
  refine (scan_law op u0 u1 sh da W l0 l1 rd0 rd1).mono fun e W' ⟨he, bel⟩ => ?_
  subst he
  exact ⟨_, rfl, _, _, _, [], _, [], hW', trodAll_mk1 (shut_bool Try.underlying4 _), (trodAll_cons_mk (shut_int Try.underlying3 w0) (trodAll_cons_mk (Below.trod Try.laidOut (by kernel_rfl) (of_decide_eq_true (by kernel_rfl)) k1 bel lt1) trodAll_mk0)), rfl, bel.frame _, fun h => by cases h⟩

theorem exactScan_holds : Rows.FnExactScanSaid :=
  OpenClaim.holds_of_wide 9 Try.f9 rfl rfl rfl rfl rfl rfl rfl ⟨rfl, rfl, rfl, rfl, rfl⟩ rfl rfl rfl rfl rfl (by kernel_rfl) Try.func9 (by kernel_rfl)
    (of_decide_eq_true (by kernel_rfl)) (by unfold Func.isWrapper; first | (rw [if_pos (by decide +kernel)]; kernel_rfl) | (rw [if_neg (by decide +kernel)]; exact ⟨rfl, rfl⟩))
    (fun os started H enc _ => scan_lifted os started H enc)
#print axioms exactScan_holds

end Go.Proofs.Ytmobjomebmipdaa
