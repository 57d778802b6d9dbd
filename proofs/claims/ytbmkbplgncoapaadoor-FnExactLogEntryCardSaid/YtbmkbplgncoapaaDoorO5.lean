import Derived.Test.YtbmkbplgncoapaaDoorO4
import Derived.Test.YtbmkbplgncoapaaDoorAt
import Derived.Test.YtbmkbplgncoapaaDoorId
import Derived.Deep.CutRange
namespace Go.Proofs.YtbmkbplgncoapaaDoor
open Go.RowKit Go.Sort
set_option linter.unusedVariables false

namespace Pl
/-- an outcome's line -/
def oLine (id : List UInt8) (i : Nat) (o : Ot) : List UInt8 := id ++ 32 :: (jn [(i : Int) + 1, o.k, o.c, o.fu, o.ce] ++ 32 :: (szL o.k o.da ++ [10]))
/-- the first k lines -/
def oLns (id : List UInt8) (os : List Ot) : Nat → List UInt8
  | 0 => []
  | k + 1 => oLns id os k ++ (match os[k]? with | some o => oLine id k o | none => [])
/-- the log's entry -/
def ent (id : ByteArray) (os : List Ot) : ByteArray := if (idB id && osB os) = true then ⟨(oLns id.data.toList os os.length).toArray⟩ else ByteArray.empty
theorem oLns_succ (id : List UInt8) {os : List Ot} {k : Nat} {o : Ot} (h : os[k]? = some o) : oLns id os (k + 1) = oLns id os k ++ oLine id k o := by rw [oLns, h]
theorem bf_iff {x : Int} (h : bf x = true) : 0 ≤ x ∧ x ≤ 100000 := by
  unfold bf at h
  rw [Bool.and_eq_true] at h
  exact ⟨of_decide_eq_true h.1, of_decide_eq_true h.2⟩
theorem oB_parts {o : Ot} (h : oB o = true) : (1 ≤ o.k ∧ o.k ≤ 4) ∧ (0 ≤ o.c ∧ o.c ≤ 100000) ∧ (0 ≤ o.fu ∧ o.fu ≤ 100000) ∧ (0 ≤ o.ce ∧ o.ce ≤ 100000) ∧ (o.k = 1 → okB o.sh o.da = true) := by
  unfold oB at h
  rw [Bool.and_eq_true, Bool.and_eq_true, Bool.and_eq_true, Bool.and_eq_true, Bool.and_eq_true] at h
  obtain ⟨⟨⟨⟨⟨h1, h2⟩, h3⟩, h4⟩, h5⟩, h6⟩ := h
  refine ⟨⟨of_decide_eq_true h1, of_decide_eq_true h2⟩, bf_iff h3, bf_iff h4, bf_iff h5, fun e => ?_⟩
  rw [decide_eq_false (by simp [e]), Bool.false_or] at h6
  exact h6
theorem szL_len {k : Int} {da : List Int} (h : da.length ≤ 1048576) : (szL k da).length ≤ 21 := by
  unfold szL
  split
  · exact Lib.itoa_length_le _ (by omega) (by omega)
  · simp
theorem szW_size {k : Int} {da : List Int} (h : da.length ≤ 1048576) : (szW k da).size ≤ 21 := by
  show (szL k da).toArray.size ≤ 21
  rw [List.size_toArray]; exact szL_len h
theorem ent_no {id : ByteArray} {os : List Ot} (h : (idB id && osB os) = false) : ent id os = ByteArray.empty := by unfold ent; rw [if_neg (by rw [h]; decide)]
theorem five_bd {i : Nat} {o : Ot} (hi : i ≤ 1000) (h : oB o = true) : ∀ x ∈ [(i : Int) + 1, o.k, o.c, o.fu, o.ce], -9223372036854775807 ≤ x ∧ x ≤ 9223372036854775807 := by
  obtain ⟨⟨a1, a2⟩, ⟨b1, b2⟩, ⟨c1, c2⟩, ⟨d1, d2⟩, _⟩ := oB_parts h
  intro x hx
  simp only [List.mem_cons, List.not_mem_nil, or_false] at hx
  rcases hx with rfl | rfl | rfl | rfl | rfl <;> omega
theorem five_len {i : Nat} {o : Ot} (hi : i ≤ 1000) (h : oB o = true) : (jn [(i : Int) + 1, o.k, o.c, o.fu, o.ce]).length ≤ 110 := by
  have := jn_len _ (five_bd hi h)
  simpa using this
theorem five_size {i : Nat} {o : Ot} (hi : i ≤ 1000) (h : oB o = true) : (⟨(jn [(i : Int) + 1, o.k, o.c, o.fu, o.ce]).toArray⟩ : ByteArray).size ≤ 110 := by
  show (jn _).toArray.size ≤ 110
  rw [List.size_toArray]; exact five_len hi h
theorem ent_line {s id : ByteArray} {os : List Ot} {k : Nat} {o : Ot} (ho : os[k]? = some o) (h : s.data.toList = oLns id.data.toList os k) :
    (s ++ id ++ ⟨#[32]⟩ ++ ⟨(jn [(k : Int) + 1, o.k, o.c, o.fu, o.ce]).toArray⟩ ++ ⟨#[32]⟩ ++ szW o.k o.da ++ ⟨#[10]⟩).data.toList = oLns id.data.toList os (k + 1) := by
  rw [oLns_succ _ ho]
  unfold oLine szW
  simp [h]
end Pl

namespace Pl
/-- the eight tests -/
def tB (k c fu ce : Int) : Bool := decide (1 ≤ k) && decide (k ≤ 4) && bf c && bf fu && bf ce
theorem tB_no {k c fu ce : Int} (h : k < 1 ∨ 4 < k ∨ c < 0 ∨ 100000 < c ∨ fu < 0 ∨ 100000 < fu ∨ ce < 0 ∨ 100000 < ce) : tB k c fu ce = false := by
  unfold tB bf
  cases hh : (decide (1 ≤ k) && decide (k ≤ 4) && (decide (0 ≤ c) && decide (c ≤ 100000)) && (decide (0 ≤ fu) && decide (fu ≤ 100000)) && (decide (0 ≤ ce) && decide (ce ≤ 100000)))
  · rfl
  · simp only [Bool.and_eq_true, decide_eq_true_eq] at hh
    omega
theorem tB_yes {k c fu ce : Int} (h : ¬ k < 1 ∧ ¬ 4 < k ∧ ¬ c < 0 ∧ ¬ 100000 < c ∧ ¬ fu < 0 ∧ ¬ 100000 < fu ∧ ¬ ce < 0 ∧ ¬ 100000 < ce) : tB k c fu ce = true := by
  unfold tB bf
  simp only [Bool.and_eq_true, decide_eq_true_eq]
  omega
theorem oB_t (o : Ot) : oB o = (tB o.k o.c o.fu o.ce && (decide (¬ o.k = 1) || okB o.sh o.da)) := rfl
theorem ent_yes {id : ByteArray} {os : List Ot} (h : (idB id && osB os) = true) : ent id os = ⟨(oLns id.data.toList os os.length).toArray⟩ := by unfold ent; rw [if_pos h]
end Pl
theorem app6 {s id x y : ByteArray} {n m : Nat} (hs : s.size ≤ n) (h1 : id.size ≤ 20) (h2 : x.size ≤ 110) (h3 : y.size ≤ 21) (hm : n + 200 ≤ m) : (s ++ id ++ ⟨#[32]⟩ ++ x ++ ⟨#[32]⟩ ++ y ++ ⟨#[10]⟩).size ≤ m := by
  simp only [ByteArray.size_append]
  have e2 : (⟨#[10]⟩ : ByteArray).size = 1 := rfl
  have e3 : (⟨#[32]⟩ : ByteArray).size = 1 := rfl
  omega

set_option maxRecDepth 100000 in
set_option maxHeartbeats 8000000 in
/-- spec.LogEntry -/
theorem specEntry_core (id : ByteArray) (b off cap : Nat) (os : List Pl.Ot) (w : World) (hid : id.size ≤ 1048576) (hl : os.length ≤ 1048576) (hbd : ∀ o ∈ os, o.bd) (hb : b < w.heap.size)
    (hc : ∀ i o, os[i]? = some o → ∃ v0 v1, OtAt w.heap.size w b (off + i * 6) o v0 v1) :
    Calls Tryd.prog 29 #[.string id, .slice (some ⟨b, off, none⟩) os.length cap] w fun e w' => e = .returned (.tuple #[.string (Pl.ent id os), .bool (Pl.idB id && Pl.osB os)]) ∧ Below w.heap.size w w' := by
  have KD := hideP (l6IdOk_any id w (by omega))
  have BR := hideP (Below.refl w.heap.size w)
  have HC := hideP hc
  have HB := hideP hbd
  clear hc hbd
  cases hi : Pl.idB id with
  | false =>
    rw [hi] at KD
    have HN := hideP (Pl.ent_no (id := id) (os := os) (by rw [hi]; rfl))
    rw [HN.out]
    clear hi HC HB
    go_enter Tryd.func29, Tryd.ntmps29
    go_wp2_with fail
    refine KD.out.mono ?_
    rintro e w' ⟨rfl, rfl⟩
    go_wp2_with fail
    go_ret2
    exact ⟨rfl, BR.out⟩
  | true =>
    rw [hi] at KD
    have hsz : id.size ≤ 20 := by
      unfold Pl.idB at hi
      rw [Bool.and_eq_true] at hi
      exact (of_decide_eq_true hi.1).2
    have HNO : Hid (Pl.osB os = false → Pl.ent id os = ByteArray.empty) := fun h => Pl.ent_no (by rw [hi, h]; rfl)
    have HYES : Hid (Pl.osB os = true → Pl.ent id os = ⟨(Pl.oLns id.data.toList os os.length).toArray⟩) := fun h => Pl.ent_yes (by rw [hi, h]; rfl)
    rw [Bool.true_and]
    clear hi
    obtain ⟨E, hE⟩ : ∃ E, Pl.ent id os = E := ⟨_, rfl⟩
    obtain ⟨t, ht⟩ : ∃ t, Pl.osB os = t := ⟨_, rfl⟩
    rw [hE] at HNO HYES ⊢
    rw [ht] at HNO HYES ⊢
    have Ht := hideP ht
    clear hE ht
    obtain ⟨n, hn⟩ : ∃ n, os.length = n := ⟨_, rfl⟩
    have Hn := hideP hn
    by_cases hlong : 20 < os.length
    · have HF : Hid (t = false) := by show _ = _; rw [← Ht.out]; exact Pl.osB_long hlong
      rw [hn] at hlong hl ⊢
      have hlong' : (20 : Int) < (n : Int) := by omega
      have HE := hideP (HNO.out HF.out)
      rw [HF.out, HE.out]
      clear hn HC HB HNO HYES
      go_enter Tryd.func29, Tryd.ntmps29
      go_wp2_with fail
      refine KD.out.mono ?_
      rintro e w' ⟨rfl, rfl⟩
      go_wp2_with fail
      go_ret2
      exact ⟨rfl, BR.out⟩
    · have HV := hideP (Pl.osB_short hlong)
      have hn20 : n ≤ 20 := by omega
      have HX : Hid (Pl.osAll os = false → E = ByteArray.empty ∧ t = false) := fun h => by
        have e : t = false := by rw [← Ht.out, HV.out, h]
        exact ⟨HNO.out e, e⟩
      have HY : Hid (Pl.osAll os = true → E = ⟨(Pl.oLns id.data.toList os n).toArray⟩ ∧ t = true) := fun h => by
        have e : t = true := by rw [← Ht.out, HV.out, h]
        exact ⟨by rw [HYES.out e, hn], e⟩
      rw [hn] at hlong hl ⊢
      have hlong' : ¬ (20 : Int) < (n : Int) := by omega
      clear hn HV HNO HYES Ht
      go_enter Tryd.func29, Tryd.ntmps29
      go_wp2_with fail
      refine KD.out.mono ?_
      rintro e w0 ⟨rfl, rfl⟩
      clear KD
      go_wp2_with fail
      go_loopw [6, 7, 8, 9] (fun a i _ _ wr => ∃ (k : Nat) (s : ByteArray), k ≤ n ∧ i = .int .i64 (k : Int) ∧ a = .string s ∧ s.size ≤ 200 * k ∧ Hid (s.data.toList = Pl.oLns id.data.toList os k) ∧ Hid (Pl.osAll (os.take k) = true) ∧ Hid (Below w0.heap.size w0 wr)) (fun _ i _ _ _ => n - (intOf i).toNat)
      case atStart => exact ⟨0, _, Nat.zero_le _, rfl, rfl, by exact Nat.le_refl _, rfl, rfl, BR⟩
      case round =>
        obtain ⟨k, s, hk, rfl, rfl, hs, hS, hall, BB⟩ := hrel
        by_cases hlt : k < n
        · have hlt' : (k : Int) < (n : Int) := by omega
          obtain ⟨o, ho⟩ : ∃ o, os[k]? = some o := ⟨_, List.getElem?_eq_getElem (by rw [Hn.out]; exact hlt)⟩
          obtain ⟨v0, v1, hat⟩ := HC.out k o ho
          have hbo := HB.out o (List.mem_of_getElem? ho)
          obtain ⟨c0, c1, c2, c3, c4, c5, _, _⟩ := hat.keep BB.out hb
          have HSn := hideP (Pl.osAll_snoc ho)
          have HF := hideP (fun h => Pl.osAll_false ho h)
          have HL := hideP (Pl.ent_line ho hS.out)
          have H5 : Hid (Pl.oB o = true → (⟨(Pl.jn [(k : Int) + 1, o.k, o.c, o.fu, o.ce]).toArray⟩ : ByteArray).size ≤ 110 ∧ ∀ x ∈ [(k : Int) + 1, o.k, o.c, o.fu, o.ce], -9223372036854775807 ≤ x ∧ x ≤ 9223372036854775807) := fun h => ⟨Pl.five_size (by omega) h, Pl.five_bd (by omega) h⟩
          have HO := hideP (Pl.oB_t o)
          have KA : Hid (∀ W, Below w0.heap.size w0 W → Calls Tryd.prog 42 #[.agg #[v0, v1]] W fun e w' => e = .returned (.bool (Pl.okB o.sh o.da)) ∧ Below W.heap.size W w') := fun W hW => specOk_any v0 v1 o.sh o.da W hbo.1 hbo.2 ((hat.r0.keep hW).up hW.size) ((hat.r1.keep hW).up hW.size)
          have hda : o.da.length ≤ 1048576 := hbo.2
          obtain ⟨a0, p0, e0⟩ : ∃ ao cp, v0 = .slice ao o.sh.length cp := hat.r0.form
          obtain ⟨a1, p1, e1⟩ : ∃ ao cp, v1 = .slice ao o.da.length cp := hat.r1.form
          have HW : Hid (∀ x : ByteArray, x.size ≤ 21 → Pl.szW o.k o.da = x → x.size ≤ 21) := fun x h _ => h
          have KW1 : Hid (o.k = 1 → Pl.szW o.k o.da = ⟨(Lib.itoa (o.da.length : Int)).toArray⟩) := fun h => by unfold Pl.szW Pl.szL; rw [if_pos h]
          have KW2 : Hid (¬ o.k = 1 → Pl.szW o.k o.da = ⟨#[45]⟩) := fun h => by unfold Pl.szW Pl.szL; rw [if_neg h]
          have HW21 := hideP (Pl.szW_size (k := o.k) hda)
          clear hat hbo ho HW
          obtain ⟨ok, oc, osh, oda, ofu, oce⟩ := o
          simp only at c0 c1 c2 c3 c4 c5 HSn HF HL H5 HO KA hda e0 e1 KW1 KW2 HW21
          generalize Pl.oB ⟨ok, oc, osh, oda, ofu, oce⟩ = vo at HSn HF H5 HO
          generalize Pl.szW ok oda = zw at HL KW1 KW2 HW21
          generalize Pl.okB osh oda = ob at KA HO
          generalize osh.length = m0 at e0
          generalize oda.length = m1 at e1 hda KW1
          subst e0 e1
          have AL : Hid (Below w0.heap.size w0 (wr.alloc (.cells #[.int .i64 ok, .int .i64 oc, .slice a0 m0 p0, .slice a1 m1 p1, .int .i64 ofu, .int .i64 oce] 98))) := BB.out.trans (((Below.refl _ _).alloc (Nat.le_refl _) _).mono BB.out.size)
          have NW : Hid (wr.heap.size < (wr.alloc (.cells #[.int .i64 ok, .int .i64 oc, .slice a0 m0 p0, .slice a1 m1 p1, .int .i64 ofu, .int .i64 oce] 98)).heap.size) := by show _ < _; simp
          have q0 : (wr.alloc (.cells #[.int .i64 ok, .int .i64 oc, .slice a0 m0 p0, .slice a1 m1 p1, .int .i64 ofu, .int .i64 oce] 98)).cell? ⟨wr.heap.size, 0, none⟩ = some (.int .i64 ok) := by simp [go_sem]
          have q1 : (wr.alloc (.cells #[.int .i64 ok, .int .i64 oc, .slice a0 m0 p0, .slice a1 m1 p1, .int .i64 ofu, .int .i64 oce] 98)).cell? ⟨wr.heap.size, 1, none⟩ = some (.int .i64 oc) := by simp [go_sem]
          have q2 : (wr.alloc (.cells #[.int .i64 ok, .int .i64 oc, .slice a0 m0 p0, .slice a1 m1 p1, .int .i64 ofu, .int .i64 oce] 98)).cell? ⟨wr.heap.size, 2, none⟩ = some (.slice a0 m0 p0) := by simp [go_sem]
          have q3 : (wr.alloc (.cells #[.int .i64 ok, .int .i64 oc, .slice a0 m0 p0, .slice a1 m1 p1, .int .i64 ofu, .int .i64 oce] 98)).cell? ⟨wr.heap.size, 3, none⟩ = some (.slice a1 m1 p1) := by simp [go_sem]
          have q4 : (wr.alloc (.cells #[.int .i64 ok, .int .i64 oc, .slice a0 m0 p0, .slice a1 m1 p1, .int .i64 ofu, .int .i64 oce] 98)).cell? ⟨wr.heap.size, 4, none⟩ = some (.int .i64 ofu) := by simp [go_sem]
          have q5 : (wr.alloc (.cells #[.int .i64 ok, .int .i64 oc, .slice a0 m0 p0, .slice a1 m1 p1, .int .i64 ofu, .int .i64 oce] 98)).cell? ⟨wr.heap.size, 5, none⟩ = some (.int .i64 oce) := by simp [go_sem]
          have Q := hideP (And.intro q0 (And.intro q1 (And.intro q2 (And.intro q3 (And.intro q4 q5)))))
          clear q0 q1 q2 q3 q4 q5
          go_upto_region 9 with fail
          generalize (wr.alloc (.cells #[.int .i64 ok, .int .i64 oc, .slice a0 m0 p0, .slice a1 m1 p1, .int .i64 ofu, .int .i64 oce] 98)) = w2 at *
          generalize wr.heap.size = N at *
          clear BB c0 c1 c2 c3 c4 c5
          obtain ⟨q0, q1, q2, q3, q4, q5⟩ := Q.out
          go_cut [65] from 28 to 98 (fun c wx => c = .bool (!Pl.tB ok oc ofu oce) ∧ wx = w2)
          case first =>
            clear HSn HF HL H5 HO KA KW1 KW2 HW21 AL NW hS hall HX HY HB HC Q
            by_cases g0 : ok < 1
            · have HB0 : Hid (Pl.tB ok oc ofu oce = false) := Pl.tB_no (.inl g0)
              go_wp2_with fail
              go_meet
              case rel => exact ⟨congrArg Value.bool (by rw [HB0.out]; rfl), rfl⟩
            by_cases g1 : 4 < ok
            · have HB0 : Hid (Pl.tB ok oc ofu oce = false) := Pl.tB_no (.inr (.inl g1))
              go_wp2_with fail
              go_meet
              case rel => exact ⟨congrArg Value.bool (by rw [HB0.out]; rfl), rfl⟩
            by_cases g2 : oc < 0
            · have HB0 : Hid (Pl.tB ok oc ofu oce = false) := Pl.tB_no (.inr (.inr (.inl g2)))
              go_wp2_with fail
              go_meet
              case rel => exact ⟨congrArg Value.bool (by rw [HB0.out]; rfl), rfl⟩
            by_cases g3 : 100000 < oc
            · have HB0 : Hid (Pl.tB ok oc ofu oce = false) := Pl.tB_no (.inr (.inr (.inr (.inl g3))))
              go_wp2_with fail
              go_meet
              case rel => exact ⟨congrArg Value.bool (by rw [HB0.out]; rfl), rfl⟩
            by_cases g4 : ofu < 0
            · have HB0 : Hid (Pl.tB ok oc ofu oce = false) := Pl.tB_no (.inr (.inr (.inr (.inr (.inl g4)))))
              go_wp2_with fail
              go_meet
              case rel => exact ⟨congrArg Value.bool (by rw [HB0.out]; rfl), rfl⟩
            by_cases g5 : 100000 < ofu
            · have HB0 : Hid (Pl.tB ok oc ofu oce = false) := Pl.tB_no (.inr (.inr (.inr (.inr (.inr (.inl g5))))))
              go_wp2_with fail
              go_meet
              case rel => exact ⟨congrArg Value.bool (by rw [HB0.out]; rfl), rfl⟩
            by_cases g6 : oce < 0
            · have HB0 : Hid (Pl.tB ok oc ofu oce = false) := Pl.tB_no (.inr (.inr (.inr (.inr (.inr (.inr (.inl g6)))))))
              go_wp2_with fail
              go_meet
              case rel => exact ⟨congrArg Value.bool (by rw [HB0.out]; rfl), rfl⟩
            by_cases g7 : 100000 < oce
            · have HB0 : Hid (Pl.tB ok oc ofu oce = false) := Pl.tB_no (.inr (.inr (.inr (.inr (.inr (.inr (.inr (g7))))))))
              go_wp2_with fail
              go_meet
              case rel => exact ⟨congrArg Value.bool (by rw [HB0.out]; rfl), rfl⟩
            have HB0 : Hid (Pl.tB ok oc ofu oce = true) := Pl.tB_yes ⟨g0, g1, g2, g3, g4, g5, g6, g7⟩
            go_wp2_with fail
            go_meet
            case rel => exact ⟨congrArg Value.bool (by rw [HB0.out]; rfl), rfl⟩
          case rest =>
            obtain ⟨rfl, rfl⟩ := hcut
            cases ht : Pl.tB ok oc ofu oce
            · have HV0 : vo = false := by rw [HO.out, ht]; rfl
              obtain ⟨hE0, ht0⟩ := HX.out (HF.out HV0)
              have HZ := hideP (And.intro hE0 ht0)
              clear ht hE0 ht0 HV0 HSn HF HL H5 HO KA KW1 KW2 HW21 NW hS hall HX HY HB HC Q q0 q1 q2 q3 q4 q5
              go_wp2_with fail
              go_ret2
              exact ⟨by rw [HZ.out.1, HZ.out.2]; rfl, AL.out⟩
            · rw [ht] at HO
              clear ht
              by_cases h1 : ok = 1
              · have h1' : (ok == 1) = true := by simp [h1]
                have HO1 : Hid (vo = ob) := by show _ = _; rw [HO.out, decide_eq_false (by simp [h1])]; rfl
                have HZW := hideP (KW1.out h1)
                have KDc := hideP (fun W => l1Dec_any (m1 : Int) W (by omega) (by omega))
                rw [← HZW.out] at KDc
                clear h1 HO KW1 KW2 HZW
                go_wp2_with fail
                refine (KA.out _ AL.out).mono ?_
                rintro e w3 ⟨rfl, hb3⟩
                have B3 := hideP (AL.out.trans (hb3.mono AL.out.size))
                have q0 := (hb3.cell (p := ⟨N, 0, none⟩) NW.out).trans q0
                have q1 := (hb3.cell (p := ⟨N, 1, none⟩) NW.out).trans q1
                have q3 := (hb3.cell (p := ⟨N, 3, none⟩) NW.out).trans q3
                have q4 := (hb3.cell (p := ⟨N, 4, none⟩) NW.out).trans q4
                have q5 := (hb3.cell (p := ⟨N, 5, none⟩) NW.out).trans q5
                have N3 := hideP (Nat.lt_of_lt_of_le NW.out hb3.size)
                clear hb3 KA NW AL
                cases ob
                · obtain ⟨hE0, ht0⟩ := HX.out (HF.out HO1.out)
                  have HZ := hideP (And.intro hE0 ht0)
                  clear hE0 ht0 HSn HF HL H5 HO1 HW21 hS hall HX HY HB HC Q q0 q1 q3 q4 q5 KDc
                  go_wp2_with fail
                  go_ret2
                  exact ⟨by rw [HZ.out.1, HZ.out.2]; rfl, B3.out⟩
                · have HT := HO1
                  clear HO1 HF
                  go_wp2_with fail
                  refine (KDc.out _).mono ?_
                  rintro e w4 ⟨rfl, hb4⟩
                  have B4 := hideP (B3.out.trans (hb4.mono B3.out.size))
                  have q0 := (hb4.cell (p := ⟨N, 0, none⟩) N3.out).trans q0
                  have q1 := (hb4.cell (p := ⟨N, 1, none⟩) N3.out).trans q1
                  have q4 := (hb4.cell (p := ⟨N, 4, none⟩) N3.out).trans q4
                  have q5 := (hb4.cell (p := ⟨N, 5, none⟩) N3.out).trans q5
                  have NW := hideP (Nat.lt_of_lt_of_le N3.out hb4.size)
                  clear hb4 KDc q3 B3 N3
                  obtain ⟨hj1, hj2⟩ := H5.out HT.out
                  have hzw : zw.size ≤ 21 := HW21.out
                  have HJ := hideP hj2
                  have HALL : Hid (Pl.osAll (os.take (k + 1)) = true) := by show _ = _; rw [HSn.out, hall.out, HT.out]; rfl
                  have hA6 : s.size ≤ 200 * k := hs
                  have Z6 := hideP (app6 hA6 hsz hj1 hzw (show 200 * k + 200 ≤ 200 * (k + 1) by omega))
                  have ALJ : Hid (Below w0.heap.size w0 (w4.alloc (.cells #[.int .i64 ((k : Int) + 1), .int .i64 ok, .int .i64 oc, .int .i64 ofu, .int .i64 oce] 3))) := B4.out.trans (((Below.refl _ _).alloc (Nat.le_refl _) _).mono B4.out.size)
                  have KJ : Hid (Calls Tryd.prog 43 #[.slice (some ⟨w4.heap.size, 0, none⟩) 5 5] (w4.alloc (.cells #[.int .i64 ((k : Int) + 1), .int .i64 ok, .int .i64 oc, .int .i64 ofu, .int .i64 oce] 3)) fun e w' => e = .returned (.string ⟨(Pl.jn [(k : Int) + 1, ok, oc, ofu, oce]).toArray⟩) ∧ Below (w4.alloc (.cells #[.int .i64 ((k : Int) + 1), .int .i64 ok, .int .i64 oc, .int .i64 ofu, .int .i64 oce] 3)).heap.size (w4.alloc (.cells #[.int .i64 ((k : Int) + 1), .int .i64 ok, .int .i64 oc, .int .i64 ofu, .int .i64 oce] 3)) w') := l1Join_any w4.heap.size 0 5 [(k : Int) + 1, ok, oc, ofu, oce] _ (by simp) hj2 (by simp) (fun i hi => by
                    match i, hi with
                    | 0, _ => simp [go_sem]
                    | 1, _ => simp [go_sem]
                    | 2, _ => simp [go_sem]
                    | 3, _ => simp [go_sem]
                    | 4, _ => simp [go_sem])
                  clear hj2
                  generalize (⟨(Pl.jn [(k : Int) + 1, ok, oc, ofu, oce]).toArray⟩ : ByteArray) = xj at *
                  have n1 : ¬ 9223372036854775807 < s.size + id.size := by omega
                  have n2 : ¬ 9223372036854775807 < s.size + id.size + 1 := by omega
                  have n3 : ¬ 9223372036854775807 < s.size + id.size + 1 + xj.size := by omega
                  have n4 : ¬ 9223372036854775807 < s.size + id.size + 1 + xj.size + 1 := by omega
                  have n5 : ¬ 9223372036854775807 < s.size + id.size + 1 + xj.size + 1 + zw.size := by omega
                  have n6 : ¬ 9223372036854775807 < s.size + id.size + 1 + xj.size + 1 + zw.size + 1 := by omega
                  clear hA6 hj1 hzw HSn H5 HT HW21 NW hS hall HX HY HB HC Q
                  go_wp2_with fail
                  refine KJ.out.mono ?_
                  rintro e w5 ⟨rfl, hb5⟩
                  have B5 := hideP (ALJ.out.trans (hb5.mono ALJ.out.size))
                  clear hb5 KJ ALJ
                  go_wp2_with fail
                  go_roundw
                  case rel => exact ⟨k + 1, _, by omega, by go_num, rfl, Z6.out, HL, HALL, B5⟩
                  case measure => simp [intOf]; omega
              · have h1' : (ok == 1) = false := by simp [h1]
                have HT : Hid (vo = true) := by show _ = _; rw [HO.out, decide_eq_true h1]; rfl
                have HZW := hideP (KW2.out h1)
                clear h1 HO KW1 KW2 KA HF
                go_upto_region 15 with fail
                rw [show (⟨#[45]⟩ : ByteArray) = zw from HZW.out.symm]
                clear HZW q2 q3 h1'
                obtain ⟨hj1, hj2⟩ := H5.out HT.out
                have hzw : zw.size ≤ 21 := HW21.out
                have HJ := hideP hj2
                have HALL : Hid (Pl.osAll (os.take (k + 1)) = true) := by show _ = _; rw [HSn.out, hall.out, HT.out]; rfl
                have hA6 : s.size ≤ 200 * k := hs
                have Z6 := hideP (app6 hA6 hsz hj1 hzw (show 200 * k + 200 ≤ 200 * (k + 1) by omega))
                have ALJ : Hid (Below w0.heap.size w0 (wc.alloc (.cells #[.int .i64 ((k : Int) + 1), .int .i64 ok, .int .i64 oc, .int .i64 ofu, .int .i64 oce] 3))) := AL.out.trans (((Below.refl _ _).alloc (Nat.le_refl _) _).mono AL.out.size)
                have KJ : Hid (Calls Tryd.prog 43 #[.slice (some ⟨wc.heap.size, 0, none⟩) 5 5] (wc.alloc (.cells #[.int .i64 ((k : Int) + 1), .int .i64 ok, .int .i64 oc, .int .i64 ofu, .int .i64 oce] 3)) fun e w' => e = .returned (.string ⟨(Pl.jn [(k : Int) + 1, ok, oc, ofu, oce]).toArray⟩) ∧ Below (wc.alloc (.cells #[.int .i64 ((k : Int) + 1), .int .i64 ok, .int .i64 oc, .int .i64 ofu, .int .i64 oce] 3)).heap.size (wc.alloc (.cells #[.int .i64 ((k : Int) + 1), .int .i64 ok, .int .i64 oc, .int .i64 ofu, .int .i64 oce] 3)) w') := l1Join_any wc.heap.size 0 5 [(k : Int) + 1, ok, oc, ofu, oce] _ (by simp) hj2 (by simp) (fun i hi => by
                  match i, hi with
                  | 0, _ => simp [go_sem]
                  | 1, _ => simp [go_sem]
                  | 2, _ => simp [go_sem]
                  | 3, _ => simp [go_sem]
                  | 4, _ => simp [go_sem])
                clear hj2
                generalize (⟨(Pl.jn [(k : Int) + 1, ok, oc, ofu, oce]).toArray⟩ : ByteArray) = xj at *
                have n1 : ¬ 9223372036854775807 < s.size + id.size := by omega
                have n2 : ¬ 9223372036854775807 < s.size + id.size + 1 := by omega
                have n3 : ¬ 9223372036854775807 < s.size + id.size + 1 + xj.size := by omega
                have n4 : ¬ 9223372036854775807 < s.size + id.size + 1 + xj.size + 1 := by omega
                have n5 : ¬ 9223372036854775807 < s.size + id.size + 1 + xj.size + 1 + zw.size := by omega
                have n6 : ¬ 9223372036854775807 < s.size + id.size + 1 + xj.size + 1 + zw.size + 1 := by omega
                clear hA6 hj1 hzw HSn H5 HT HW21 NW hS hall HX HY HB HC Q
                go_wp2_with fail
                refine KJ.out.mono ?_
                rintro e w5 ⟨rfl, hb5⟩
                have B5 := hideP (ALJ.out.trans (hb5.mono ALJ.out.size))
                clear hb5 KJ ALJ
                go_wp2_with fail
                go_roundw
                case rel => exact ⟨k + 1, _, by omega, by go_num, rfl, Z6.out, HL, HALL, B5⟩
                case measure => simp [intOf]; omega
        · have hlt' : ¬ (k : Int) < (n : Int) := by omega
          have HA : Hid (Pl.osAll os = true) := by
            have := hall.out
            rw [List.take_of_length_le (by rw [Hn.out]; omega)] at this
            exact this
          obtain ⟨HE, Ht⟩ := HY.out HA.out
          have kn : k = n := by omega
          have HEs : Hid (s = E) := by
            show _ = _
            rw [HE]
            apply ByteArray.ext
            apply Array.toList_inj.1
            show _ = Pl.oLns id.data.toList os n
            rw [← kn]
            exact hS.out
          have HT' := hideP Ht
          clear HE Ht kn HA
          go_wp2_with fail
          go_ret2
          exact ⟨by rw [HT'.out, ← HEs.out]; rfl, BB.out⟩

theorem specEntry_nil (id : ByteArray) (ao : Option Addr) (cap : Nat) (w : World) (hid : id.size ≤ 1048576) : Calls Tryd.prog 29 #[.string id, .slice ao 0 cap] w fun e w' => e = .returned (.tuple #[.string ByteArray.empty, .bool (Pl.idB id)]) ∧ w' = w := by
  have KD := hideP (l6IdOk_any id w (by omega))
  cases hi : Pl.idB id with
  | false =>
    rw [hi] at KD
    clear hi
    go_enter Tryd.func29, Tryd.ntmps29
    go_wp2_with fail
    refine KD.out.mono ?_
    rintro e w' ⟨rfl, rfl⟩
    go_wp2_with fail
    go_ret2
    exact ⟨rfl, rfl⟩
  | true =>
    rw [hi] at KD
    clear hi
    go_enter Tryd.func29, Tryd.ntmps29
    go_wp2_with fail
    refine KD.out.mono ?_
    rintro e w' ⟨rfl, rfl⟩
    go_wp2_with fail
    go_loop [6, 7] (fun a i => a = .string ⟨#[]⟩ ∧ i = .int .i64 0) (fun _ _ => 0)
    case atStart => exact ⟨rfl, rfl⟩
    case round =>
      obtain ⟨rfl, rfl⟩ := hrel
      go_wp2_with fail
      go_ret2
      exact ⟨rfl, rfl⟩

theorem ent_nil (id : ByteArray) : Pl.ent id [] = ByteArray.empty := by
  unfold Pl.ent
  split <;> rfl

/-- spec.LogEntry -/
theorem specEntry_any (id : ByteArray) (v : Value) (os : List Pl.Ot) (w : World) (hid : id.size ≤ 1048576) (hl : os.length ≤ 1048576) (hbd : ∀ o ∈ os, o.bd) (h : RdO w.heap.size w v os) :
    Calls Tryd.prog 29 #[.string id, v] w fun e w' => e = .returned (.tuple #[.string (Pl.ent id os), .bool (Pl.idB id && Pl.osB os)]) ∧ Below w.heap.size w w' := by
  obtain ⟨ao, cap, rfl, h⟩ := h
  by_cases h0 : os.length = 0
  · obtain rfl := List.length_eq_zero_iff.1 h0
    refine (specEntry_nil id ao cap w hid).mono ?_
    rintro e w' ⟨rfl, rfl⟩
    refine ⟨?_, Below.refl _ _⟩
    rw [ent_nil, show Pl.osB [] = true from rfl, Bool.and_true]
  · rcases h with h | ⟨b, off, hb, rfl, hc⟩
    · exact absurd h h0
    · exact specEntry_core id b off cap os w hid hl hbd hb hc

end Go.Proofs.YtbmkbplgncoapaaDoor
