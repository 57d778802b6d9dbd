import Derived.Test.YtbmkbplgncoapaaDoorO5
import Derived.Test.YtbmkbplgncoapaaDoorAd
namespace Go.Proofs.YtbmkbplgncoapaaDoor
open Go.RowKit Go.Sort
set_option linter.unusedVariables false

set_option maxHeartbeats 1000000 in
set_option maxRecDepth 100000 in
/-- (*strings.Builder).String, of one that holds nothing yet -/
theorem string_fresh (B b : Nat) (p : Value) (w : World) (hbk : w.heap[b]? = some (.cells #[p, .slice none 0 0] 86 (0, 0))) :
    Calls Tryd.prog 65 #[.pointer (some ⟨b, 0, none⟩)] w fun e w' => e = .returned (.string ⟨#[]⟩) ∧ Below B w w' := by
  have c1 : w.drew.cell? ⟨b, 1, none⟩ = some (.slice none 0 0) := by
    have : w.drew.heap[b]? = some (.cells #[p, .slice none 0 0] 86 (0, 0)) := hbk
    rw [Lib.cell_of_heap this]; rfl
  have hSD : (Builtin.unsafeSliceData_ #[58] 127 #[.slice none 0 0]).run Tryd.prog w.drew = .ok (.pointer none) w.drew := rfl
  have hUS : ∀ (W : World) (q : Option Addr), (Builtin.unsafeString_ #[127, 3] 9 #[.pointer q, .int .i64 0]).run Tryd.prog W = .ok (.string .empty) W := fun W q => Lib.run_unsafeString_none W _ _ _ q
  have mixed : Tryd.prog.follows .mixedOrders = true := by kernel_rfl
  go_enter Tryd.func65, Tryd.ntmps65
  go_wp2
  go_region_o
  all_goals (go_wp2; go_ret; exact ⟨rfl, Below.drew (Below.refl B w)⟩)

/-- an outcome's variable -/
def S6 (N : Nat) (k c fu ce : Int) (u0 u1 : Value) (w : World) : Prop :=
  w.cell? ⟨N, 0, none⟩ = some (.int .i64 k) ∧ w.cell? ⟨N, 1, none⟩ = some (.int .i64 c) ∧ w.cell? ⟨N, 2, none⟩ = some u0 ∧ w.cell? ⟨N, 3, none⟩ = some u1 ∧ w.cell? ⟨N, 4, none⟩ = some (.int .i64 fu) ∧ w.cell? ⟨N, 5, none⟩ = some (.int .i64 ce)
theorem S6.keep {N : Nat} {k c fu ce : Int} {u0 u1 : Value} {w w' : World} (h : S6 N k c fu ce u0 u1 w) (hN : N < w.heap.size) (hb : Below w.heap.size w w') : S6 N k c fu ce u0 u1 w' := by
  obtain ⟨h0, h1, h2, h3, h4, h5⟩ := h
  exact ⟨(hb.cell (p := ⟨N, 0, none⟩) hN).trans h0, (hb.cell (p := ⟨N, 1, none⟩) hN).trans h1, (hb.cell (p := ⟨N, 2, none⟩) hN).trans h2, (hb.cell (p := ⟨N, 3, none⟩) hN).trans h3, (hb.cell (p := ⟨N, 4, none⟩) hN).trans h4, (hb.cell (p := ⟨N, 5, none⟩) hN).trans h5⟩
theorem S6.of {N : Nat} {k c fu ce : Int} {u0 u1 : Value} {w : World} {t : TypeId} (h : w.heap[N]? = some (.cells #[.int .i64 k, .int .i64 c, u0, u1, .int .i64 fu, .int .i64 ce] t (0, 0))) : S6 N k c fu ce u0 u1 w :=
  ⟨by rw [Lib.cell_of_heap h]; rfl, by rw [Lib.cell_of_heap h]; rfl, by rw [Lib.cell_of_heap h]; rfl, by rw [Lib.cell_of_heap h]; rfl, by rw [Lib.cell_of_heap h]; rfl, by rw [Lib.cell_of_heap h]; rfl⟩
theorem S6.kept {b N : Nat} {k c fu ce : Int} {u0 u1 : Value} {w w' : World} (h : w.heap[N]? = some (.cells #[.int .i64 k, .int .i64 c, u0, u1, .int .i64 fu, .int .i64 ce] 98 (0, 0))) (hk : Lib.OthersKept 5 (some b) w w') (hne : ¬ N = b) : S6 N k c fu ce u0 u1 w' :=
  S6.of (hk N _ h (by simp [hne]) (by intro c' fz hh; injection hh with _ h2 _; exact absurd h2 (by decide)))

set_option maxRecDepth 10000 in
theorem join7 (a b c d e f g : ByteArray) : Lib.join ([a, b, c, d, e, f, g].map (·.data.toList)) [32] = a.data.toList ++ 32 :: (b.data.toList ++ 32 :: (c.data.toList ++ 32 :: (d.data.toList ++ 32 :: (e.data.toList ++ 32 :: (f.data.toList ++ 32 :: g.data.toList))))) := by
  rw [List.map_cons, Lib.join_cons]; simp [Lib.joinTail]
set_option maxRecDepth 10000 in
theorem jn5 (a b c d e : Int) : Pl.jn [a, b, c, d, e] = Lib.itoa a ++ 32 :: (Lib.itoa b ++ 32 :: (Lib.itoa c ++ 32 :: (Lib.itoa d ++ 32 :: Lib.itoa e))) := by
  unfold Pl.jn
  rw [List.map_cons, Lib.join_cons]; simp [Lib.joinTail]
set_option maxRecDepth 10000 in
theorem line7 (id : ByteArray) (i : Nat) (o : Pl.Ot) : Lib.join ([id, wrd ((i : Int) + 1), wrd o.k, wrd o.c, wrd o.fu, wrd o.ce, Pl.szW o.k o.da].map (·.data.toList)) [32] ++ [10] = Pl.oLine id.data.toList i o := by
  rw [join7]
  unfold Pl.oLine Pl.szW wrd
  rw [jn5]
  simp
theorem line_len {id : ByteArray} {i : Nat} {o : Pl.Ot} (hid : id.size ≤ 20) (hi : i ≤ 1000) (h : Pl.oB o = true) (hd : o.da.length ≤ 1048576) : (Pl.oLine id.data.toList i o).length ≤ 200 := by
  have h1 := Pl.five_len hi h
  have h2 := Pl.szL_len (k := o.k) hd
  unfold Pl.oLine
  have : id.data.toList.length = id.size := by rw [Array.length_toList]; rfl
  simp only [List.length_append, List.length_cons, List.length_nil]
  omega
theorem oLns_len {id : ByteArray} {os : List Pl.Ot} (hid : id.size ≤ 20) (hall : Pl.osAll os = true) (hbd : ∀ o ∈ os, o.bd) : ∀ k, k ≤ 1000 → (Pl.oLns id.data.toList os k).length ≤ 200 * k := by
  intro k
  induction k with
  | zero => intro _; simp [Pl.oLns]
  | succ k ih =>
    intro hk
    have h1 := ih (by omega)
    cases ho : os[k]? with
    | none => rw [Pl.oLns, ho]; simp only [List.append_nil]; omega
    | some o =>
      rw [Pl.oLns_succ _ ho, List.length_append]
      have := line_len (i := k) hid (by omega) (Pl.osAll_at hall ho) (hbd o (List.mem_of_getElem? ho)).2
      omega
theorem oLns_ne {id : List UInt8} {os : List Pl.Ot} {k : Nat} (h : 0 < os.length) (hk : 0 < k) : Pl.oLns id os k ≠ [] := by
  obtain ⟨j, rfl⟩ : ∃ j, k = j + 1 := ⟨k - 1, by omega⟩
  clear hk
  induction j with
  | zero =>
    obtain ⟨o, ho⟩ : ∃ o, os[0]? = some o := ⟨_, List.getElem?_eq_getElem h⟩
    rw [Pl.oLns_succ _ ho]
    unfold Pl.oLine
    intro e
    have := congrArg List.length e
    simp at this
  | succ j ih =>
    rw [Pl.oLns]
    intro e
    exact ih (List.append_eq_nil_iff.1 e).1

set_option maxRecDepth 100000 in
set_option maxHeartbeats 16000000 in
/-- impl.LogEntry -/
theorem implEntry_core (id : ByteArray) (b off cap : Nat) (os : List Pl.Ot) (w : World) (hid : id.size ≤ 1048576) (hl : os.length ≤ 1048576) (hpos : 0 < os.length) (hbd : ∀ o ∈ os, o.bd) (ht : Tab w) (hb : b < w.heap.size)
    (hc : ∀ i o, os[i]? = some o → ∃ v0 v1, OtAt w.heap.size w b (off + i * 6) o v0 v1) :
    Calls Tryd.prog 31 #[.string id, .slice (some ⟨b, off, none⟩) os.length cap] w fun e w' => e = .returned (.tuple #[.string (Pl.ent id os), .bool (Pl.idB id && Pl.osB os)]) ∧ Below w.heap.size w w' := by
  have KV : Hid (∀ W, Below w.heap.size w W → Calls Tryd.prog 75 #[.slice (some ⟨b, off, none⟩) os.length cap] W fun e w' => e = .returned (.bool (Pl.osB os)) ∧ Below W.heap.size W w') := fun W hW =>
    outcomesOk_any _ os W hl hbd ((RdO.keep (B := w.heap.size) (w := w) ⟨some ⟨b, off, none⟩, cap, rfl, .inr ⟨b, off, hb, rfl, hc⟩⟩ hW).up hW.size)
  have KD := hideP (idOk_any id w (by omega))
  have BR := hideP (Below.refl w.heap.size w)
  have HT := hideP ht
  have HC := hideP hc
  have HB := hideP hbd
  clear ht hc hbd
  cases hi : Pl.idB id with
  | false =>
    rw [hi] at KD
    have HN := hideP (Pl.ent_no (id := id) (os := os) (by rw [hi]; rfl))
    rw [HN.out]
    clear hi HC HB KV HT
    generalize os.length = n at *
    go_enter Tryd.func31, Tryd.ntmps31
    go_wp2_with fail
    refine KD.out.mono ?_
    rintro e w' ⟨rfl, rfl⟩
    go_wp2_with fail
    go_ret2
    exact ⟨rfl, BR.out⟩
  | true =>
    cases hv : Pl.osB os with
    | false =>
      rw [hi] at KD
      rw [hv] at KV
      have HN := hideP (Pl.ent_no (id := id) (os := os) (by rw [hi, hv]; rfl))
      rw [HN.out]
      clear hi hv HC HB HT
      generalize os.length = n at *
      go_enter Tryd.func31, Tryd.ntmps31
      go_wp2_with fail
      refine KD.out.mono ?_
      rintro e w' ⟨rfl, rfl⟩
      go_wp2_with fail
      refine (KV.out _ BR.out).mono ?_
      rintro e w1 ⟨rfl, hb1⟩
      have B1 := hideP hb1
      clear hb1
      go_wp2_with fail
      go_ret2
      exact ⟨rfl, B1.out⟩
    | true =>
      rw [hi] at KD
      rw [hv] at KV
      have hsz : id.size ≤ 20 := by
        unfold Pl.idB at hi
        rw [Bool.and_eq_true] at hi
        exact (of_decide_eq_true hi.1).2
      have hn20 : os.length ≤ 20 := by
        unfold Pl.osB at hv
        rw [Bool.and_eq_true] at hv
        exact of_decide_eq_true hv.1
      have HALL : Hid (Pl.osAll os = true) := by
        unfold Pl.osB at hv
        rw [Bool.and_eq_true] at hv
        exact hv.2
      have HENT : Hid (Pl.ent id os = ⟨(Pl.oLns id.data.toList os os.length).toArray⟩) := Pl.ent_yes (by rw [hi, hv]; rfl)
      have HNE := hideP (oLns_ne (id := id.data.toList) hpos hpos)
      have HLNS : Hid (∀ k, k ≤ 1000 → (Pl.oLns id.data.toList os k).length ≤ 200 * k) := oLns_len hsz HALL.out HB.out
      clear hi hv
      obtain ⟨n, hn⟩ : ∃ n, os.length = n := ⟨_, rfl⟩
      have Hn := hideP hn
      rw [hn] at hn20 hl hpos KV HENT HNE ⊢
      clear hn
      rw [HENT.out]
      clear HENT
      obtain ⟨lns, hlns⟩ : ∃ lns, Pl.oLns id.data.toList os n = lns := ⟨_, rfl⟩
      have HLL := hideP hlns
      rw [hlns] at HNE ⊢
      clear hlns
      go_enter Tryd.func31, Tryd.ntmps31
      go_wp2_with fail
      refine KD.out.mono ?_
      rintro e w0 ⟨rfl, rfl⟩
      go_wp2_with fail
      refine (KV.out _ BR.out).mono ?_
      rintro e w1 ⟨rfl, hb1⟩
      have B1 := hideP (hb1.trans (((Below.refl _ _).alloc (Nat.le_refl _) (.cells #[.pointer none, .slice none 0 0] 86)).mono hb1.size))
      have HB1 := hideP hb1.size
      obtain ⟨B, hBB⟩ : ∃ B, w1.heap.size = B := ⟨_, rfl⟩
      have T1 : Hid (Tx B B (Pl.oLns id.data.toList os 0) (w1.alloc (.cells #[.pointer none, .slice none 0 0] 86))) := by
        have := Tx.new w1
        rw [hBB] at this
        exact this
      have B0 : Hid (w0.heap.size ≤ B) := by rw [← hBB]; exact HB1.out
      clear hb1 KD KV
      go_wp2_with fail
      generalize (w1.alloc (.cells #[.pointer none, .slice none 0 0] 86)) = wa at *
      clear hBB HB1
      go_loopw [19, 7, 8] (fun i _ _ wr => ∃ k : Nat, k ≤ n ∧ i = .int .i64 (k : Int) ∧ Hid (Tx B B (Pl.oLns id.data.toList os k) wr) ∧ Hid (Below w0.heap.size w0 wr)) (fun i _ _ _ => n - (intOf i).toNat)
      case atStart => exact ⟨0, Nat.zero_le _, rfl, T1, B1⟩
      case round =>
        obtain ⟨k, hk, rfl, hTx, BB⟩ := hrel
        clear T1 B1
        by_cases hlt : k < n
        · have hlt' : (k : Int) < (n : Int) := by omega
          obtain ⟨o, ho⟩ : ∃ o, os[k]? = some o := ⟨_, List.getElem?_eq_getElem (by rw [Hn.out]; exact hlt)⟩
          obtain ⟨v0, v1, hat⟩ := HC.out k o ho
          have hbo := HB.out o (List.mem_of_getElem? ho)
          have hob := Pl.osAll_at HALL.out ho
          obtain ⟨c0, c1, c2, c3, c4, c5, _, _⟩ := hat.keep BB.out hb
          obtain ⟨⟨x1, x2⟩, ⟨x3, x4⟩, ⟨x5, x6⟩, ⟨x7, x8⟩, _⟩ := Pl.oB_parts hob
          have HLN : Hid (Pl.oLns id.data.toList os k ++ Lib.join ([id, wrd ((k : Int) + 1), wrd o.k, wrd o.c, wrd o.fu, wrd o.ce, Pl.szW o.k o.da].map (·.data.toList)) [32] ++ [10] = Pl.oLns id.data.toList os (k + 1)) := by
            show _ = _
            rw [List.append_assoc, line7, Pl.oLns_succ _ ho]
          have HLEN : Hid ((Pl.oLns id.data.toList os k).length + (Lib.join ([id, wrd ((k : Int) + 1), wrd o.k, wrd o.c, wrd o.fu, wrd o.ce, Pl.szW o.k o.da].map (·.data.toList)) [32]).length ≤ 1000000) := by
            show _ ≤ _
            have h1 := HLNS.out k (by omega)
            have h2 := line_len (i := k) hsz (by omega) hob hbo.2
            rw [← line7, List.length_append] at h2
            omega
          have KI : Hid (∀ W, Tab W → Calls Tryd.prog 63 #[.int .i64 ((k : Int) + 1)] W fun e w' => e = .returned (.string (wrd ((k : Int) + 1))) ∧ Below W.heap.size W w') := fun W hW => itoa_any _ W (by omega) (by omega) hW
          have K0 : Hid (∀ W, Tab W → Calls Tryd.prog 63 #[.int .i64 o.k] W fun e w' => e = .returned (.string (wrd o.k)) ∧ Below W.heap.size W w') := fun W hW => itoa_any _ W (by omega) (by omega) hW
          have K1 : Hid (∀ W, Tab W → Calls Tryd.prog 63 #[.int .i64 o.c] W fun e w' => e = .returned (.string (wrd o.c)) ∧ Below W.heap.size W w') := fun W hW => itoa_any _ W (by omega) (by omega) hW
          have K2 : Hid (∀ W, Tab W → Calls Tryd.prog 63 #[.int .i64 o.fu] W fun e w' => e = .returned (.string (wrd o.fu)) ∧ Below W.heap.size W w') := fun W hW => itoa_any _ W (by omega) (by omega) hW
          have K3 : Hid (∀ W, Tab W → Calls Tryd.prog 63 #[.int .i64 o.ce] W fun e w' => e = .returned (.string (wrd o.ce)) ∧ Below W.heap.size W w') := fun W hW => itoa_any _ W (by omega) (by omega) hW
          have KZ : Hid (∀ W, Tab W → Calls Tryd.prog 76 #[.agg #[.int .i64 o.k, .int .i64 o.c, v0, v1, .int .i64 o.fu, .int .i64 o.ce]] W fun e w' => e = .returned (.string (Pl.szW o.k o.da)) ∧ Below W.heap.size W w') := fun W hW => sizeWord_any o.k o.c o.fu o.ce v0 v1 _ _ o.da W hbo.2 hat.r1 hW
          obtain ⟨a0, p0, e0⟩ : ∃ ao cp, v0 = .slice ao o.sh.length cp := hat.r0.form
          obtain ⟨a1, p1, e1⟩ : ∃ ao cp, v1 = .slice ao o.da.length cp := hat.r1.form
          clear hat hbo ho hob x1 x2 x3 x4 x5 x6 x7 x8
          obtain ⟨ok, oc, osh, oda, ofu, oce⟩ := o
          simp only at c0 c1 c2 c3 c4 c5 HLN HLEN K0 K1 K2 K3 KZ e0 e1
          generalize wrd ((k : Int) + 1) = sk at *
          generalize wrd ok = s0 at *
          generalize wrd oc = s1 at *
          generalize wrd ofu = s2 at *
          generalize wrd oce = s3 at *
          generalize Pl.szW ok oda = zw at *
          generalize osh.length = m0 at e0
          generalize oda.length = m1 at e1
          subst e0 e1
          have ALr : Hid (Below wr.heap.size wr (wr.alloc (.cells #[.int .i64 ok, .int .i64 oc, .slice a0 m0 p0, .slice a1 m1 p1, .int .i64 ofu, .int .i64 oce] 98)).drew) := ((Below.refl _ _).alloc (Nat.le_refl _) _).drew
          have B2 := hideP (BB.out.trans (ALr.out.mono BB.out.size))
          have T2 := hideP (hTx.out.keep ALr.out)
          have L2 : Hid (wr.heap.size < (wr.alloc (.cells #[.int .i64 ok, .int .i64 oc, .slice a0 m0 p0, .slice a1 m1 p1, .int .i64 ofu, .int .i64 oce] 98)).drew.heap.size) := by show _ < (wr.alloc _).heap.size; simp
          have H2 : Hid ((wr.alloc (.cells #[.int .i64 ok, .int .i64 oc, .slice a0 m0 p0, .slice a1 m1 p1, .int .i64 ofu, .int .i64 oce] 98)).drew.heap[wr.heap.size]? = some (.cells #[.int .i64 ok, .int .i64 oc, .slice a0 m0 p0, .slice a1 m1 p1, .int .i64 ofu, .int .i64 oce] 98 (0, 0))) := heap_alloc_new wr _
          have C2 : Hid (S6 wr.heap.size ok oc ofu oce (.slice a0 m0 p0) (.slice a1 m1 p1) (wr.alloc (.cells #[.int .i64 ok, .int .i64 oc, .slice a0 m0 p0, .slice a1 m1 p1, .int .i64 ofu, .int .i64 oce] 98)).drew) := S6.of H2.out
          have NE : Hid (¬ wr.heap.size = B) := by show ¬ _; have := hTx.out.lt; omega
          go_wp2_with fail
          clear c0 c1 c2 c3 c4 c5 ALr
          refine wp_region_held (S := S6 wr.heap.size ok oc ofu oce (.slice a0 m0 p0) (.slice a1 m1 p1)) (by kernel_rfl) ?_
          change wpAnyH _ _ _ _ _ _ _ _ (World.drew _)
          refine wpAnyH_take (i := 0) (v := .string id) rfl (by kernel_rfl) (by kernel_rfl) (by kernel_rfl) (fun _ _ _ h => h) (Or.inl ⟨by rfl, ?_⟩) C2.out ?_
          · intro w' hS
            clear hS
            go_simp
          refine wpAnyH_take (i := 1) (v := .int .i64 (k : Int)) rfl (by kernel_rfl) (by kernel_rfl) (by kernel_rfl) (fun _ _ _ h => h) (Or.inl ⟨by rfl, ?_⟩) C2.out ?_
          · intro w' hS
            clear hS
            go_simp
          refine wpAnyH_take (i := 2) (v := .int .i64 ((k : Int) + 1)) rfl (by kernel_rfl) (by kernel_rfl) (by kernel_rfl) (fun _ _ _ h => h) (Or.inl ⟨by rfl, ?_⟩) C2.out ?_
          · intro w' hS
            clear hS
            go_simp
            rw [IntKind.wrap_i64]
            omega
          refine wpAnyH_take (i := 4) (v := .pointer (some ⟨wr.heap.size, 0, none⟩)) rfl (by kernel_rfl) (by kernel_rfl) (by kernel_rfl) (fun _ _ _ h => h) (Or.inl ⟨by rfl, ?_⟩) C2.out ?_
          · intro w' hS
            clear hS
            go_simp
          refine wpAnyH_take (i := 7) (v := .pointer (some ⟨wr.heap.size, 1, none⟩)) rfl (by kernel_rfl) (by kernel_rfl) (by kernel_rfl) (fun _ _ _ h => h) (Or.inl ⟨by rfl, ?_⟩) C2.out ?_
          · intro w' hS
            clear hS
            go_simp
          refine wpAnyH_take (i := 10) (v := .pointer (some ⟨wr.heap.size, 4, none⟩)) rfl (by kernel_rfl) (by kernel_rfl) (by kernel_rfl) (fun _ _ _ h => h) (Or.inl ⟨by rfl, ?_⟩) C2.out ?_
          · intro w' hS
            clear hS
            go_simp
          refine wpAnyH_take (i := 13) (v := .pointer (some ⟨wr.heap.size, 5, none⟩)) rfl (by kernel_rfl) (by kernel_rfl) (by kernel_rfl) (fun _ _ _ h => h) (Or.inl ⟨by rfl, ?_⟩) C2.out ?_
          · intro w' hS
            clear hS
            go_simp
          refine wpAnyH_take (i := 5) (v := .int .i64 ok) rfl (by kernel_rfl) (by kernel_rfl) (by kernel_rfl) (fun _ _ _ h => h) (Or.inl ⟨by rfl, ?_⟩) C2.out ?_
          · intro w' hS
            obtain ⟨y0, y1, y2, y3, y4, y5⟩ := hS
            go_simp
          refine wpAnyH_take (i := 8) (v := .int .i64 oc) rfl (by kernel_rfl) (by kernel_rfl) (by kernel_rfl) (fun _ _ _ h => h) (Or.inl ⟨by rfl, ?_⟩) C2.out ?_
          · intro w' hS
            obtain ⟨y0, y1, y2, y3, y4, y5⟩ := hS
            go_simp
          refine wpAnyH_take (i := 11) (v := .int .i64 ofu) rfl (by kernel_rfl) (by kernel_rfl) (by kernel_rfl) (fun _ _ _ h => h) (Or.inl ⟨by rfl, ?_⟩) C2.out ?_
          · intro w' hS
            obtain ⟨y0, y1, y2, y3, y4, y5⟩ := hS
            go_simp
          refine wpAnyH_take (i := 14) (v := .int .i64 oce) rfl (by kernel_rfl) (by kernel_rfl) (by kernel_rfl) (fun _ _ _ h => h) (Or.inl ⟨by rfl, ?_⟩) C2.out ?_
          · intro w' hS
            obtain ⟨y0, y1, y2, y3, y4, y5⟩ := hS
            go_simp
          refine wpAnyH_take (i := 16) (v := .agg #[.int .i64 ok, .int .i64 oc, .slice a0 m0 p0, .slice a1 m1 p1, .int .i64 ofu, .int .i64 oce]) rfl (by kernel_rfl) (by kernel_rfl) (by kernel_rfl) (fun _ _ _ h => h) (Or.inl ⟨by rfl, ?_⟩) C2.out ?_
          · intro w' hS
            obtain ⟨y0, y1, y2, y3, y4, y5⟩ := hS
            go_simp
          generalize (wr.alloc (.cells #[.int .i64 ok, .int .i64 oc, .slice a0 m0 p0, .slice a1 m1 p1, .int .i64 ofu, .int .i64 oce] 98)).drew = w2 at *
          refine wpAnyH_ready (rs := [3]) (by kernel_rfl) (by simp) ?_
          refine AllReadyH.cons rfl (fun K hK => ?_) AllReadyH.nil
          go_simp
          have ht2 := hideP (HT.out.keep B2.out)
          refine (KI.out _ ht2.out).mono ?_
          rintro e w3 ⟨rfl, hb3⟩
          have B3 := hideP (B2.out.trans (hb3.mono B2.out.size))
          have T3 := hideP (T2.out.keep hb3)
          have L3 := hideP (Nat.lt_of_lt_of_le L2.out hb3.size)
          have H3 := hideP ((hb3.block wr.heap.size L2.out).trans H2.out)
          have C3 := hideP (C2.out.keep L2.out hb3)
          clear hb3 B2 T2 L2 H2 C2 ht2 KI
          refine hK.out _ _ C3.out (fun _ => ?_)
          clear hK
          refine wpAnyH_ready (rs := [6]) (by kernel_rfl) (by simp) ?_
          refine AllReadyH.cons rfl (fun K hK => ?_) AllReadyH.nil
          go_simp
          have ht3 := hideP (HT.out.keep B3.out)
          refine (K0.out _ ht3.out).mono ?_
          rintro e w4 ⟨rfl, hb4⟩
          have B4 := hideP (B3.out.trans (hb4.mono B3.out.size))
          have T4 := hideP (T3.out.keep hb4)
          have L4 := hideP (Nat.lt_of_lt_of_le L3.out hb4.size)
          have H4 := hideP ((hb4.block wr.heap.size L3.out).trans H3.out)
          have C4 := hideP (C3.out.keep L3.out hb4)
          clear hb4 B3 T3 L3 H3 C3 ht3 K0
          refine hK.out _ _ C4.out (fun _ => ?_)
          clear hK
          refine wpAnyH_ready (rs := [9]) (by kernel_rfl) (by simp) ?_
          refine AllReadyH.cons rfl (fun K hK => ?_) AllReadyH.nil
          go_simp
          have ht4 := hideP (HT.out.keep B4.out)
          refine (K1.out _ ht4.out).mono ?_
          rintro e w5 ⟨rfl, hb5⟩
          have B5 := hideP (B4.out.trans (hb5.mono B4.out.size))
          have T5 := hideP (T4.out.keep hb5)
          have L5 := hideP (Nat.lt_of_lt_of_le L4.out hb5.size)
          have H5 := hideP ((hb5.block wr.heap.size L4.out).trans H4.out)
          have C5 := hideP (C4.out.keep L4.out hb5)
          clear hb5 B4 T4 L4 H4 C4 ht4 K1
          refine hK.out _ _ C5.out (fun _ => ?_)
          clear hK
          refine wpAnyH_ready (rs := [12]) (by kernel_rfl) (by simp) ?_
          refine AllReadyH.cons rfl (fun K hK => ?_) AllReadyH.nil
          go_simp
          have ht5 := hideP (HT.out.keep B5.out)
          refine (K2.out _ ht5.out).mono ?_
          rintro e w6 ⟨rfl, hb6⟩
          have B6 := hideP (B5.out.trans (hb6.mono B5.out.size))
          have T6 := hideP (T5.out.keep hb6)
          have L6 := hideP (Nat.lt_of_lt_of_le L5.out hb6.size)
          have H6 := hideP ((hb6.block wr.heap.size L5.out).trans H5.out)
          have C6 := hideP (C5.out.keep L5.out hb6)
          clear hb6 B5 T5 L5 H5 C5 ht5 K2
          refine hK.out _ _ C6.out (fun _ => ?_)
          clear hK
          refine wpAnyH_ready (rs := [15]) (by kernel_rfl) (by simp) ?_
          refine AllReadyH.cons rfl (fun K hK => ?_) AllReadyH.nil
          go_simp
          have ht6 := hideP (HT.out.keep B6.out)
          refine (K3.out _ ht6.out).mono ?_
          rintro e w7 ⟨rfl, hb7⟩
          have B7 := hideP (B6.out.trans (hb7.mono B6.out.size))
          have T7 := hideP (T6.out.keep hb7)
          have L7 := hideP (Nat.lt_of_lt_of_le L6.out hb7.size)
          have H7 := hideP ((hb7.block wr.heap.size L6.out).trans H6.out)
          have C7 := hideP (C6.out.keep L6.out hb7)
          clear hb7 B6 T6 L6 H6 C6 ht6 K3
          refine hK.out _ _ C7.out (fun _ => ?_)
          clear hK
          refine wpAnyH_ready (rs := [17]) (by kernel_rfl) (by simp) ?_
          refine AllReadyH.cons rfl (fun K hK => ?_) AllReadyH.nil
          go_simp
          have ht7 := hideP (HT.out.keep B7.out)
          refine (KZ.out _ ht7.out).mono ?_
          rintro e w8 ⟨rfl, hb8⟩
          have B8 := hideP (B7.out.trans (hb8.mono B7.out.size))
          have T8 := hideP (T7.out.keep hb8)
          have L8 := hideP (Nat.lt_of_lt_of_le L7.out hb8.size)
          have H8 := hideP ((hb8.block wr.heap.size L7.out).trans H7.out)
          have C8 := hideP (C7.out.keep L7.out hb8)
          clear hb8 B7 T7 L7 H7 C7 ht7 KZ
          refine hK.out _ _ C8.out (fun _ => ?_)
          clear hK
          refine wpAnyH_ready (rs := [18]) (by kernel_rfl) (by simp) ?_
          refine AllReadyH.cons rfl (fun K hK => ?_) AllReadyH.nil
          go_simp
          have AL4 : Hid (Below w8.heap.size w8 (w8.alloc (.cells #[.string id, .string sk, .string s0, .string s1, .string s2, .string s3, .string zw] 9))) := (Below.refl _ _).alloc (Nat.le_refl _) _
          refine hK.out _ _ (C8.out.keep L8.out AL4.out) (fun _ => ?_)
          clear hK
          have T9 := hideP (T8.out.keep AL4.out)
          have B9 := hideP (B8.out.trans (AL4.out.mono B8.out.size))
          have H9 := hideP ((AL4.out.block wr.heap.size L8.out).trans H8.out)
          have CC : Hid (∀ (j : Nat) x, [id, sk, s0, s1, s2, s3, zw][j]? = some x → (w8.alloc (.cells #[.string id, .string sk, .string s0, .string s1, .string s2, .string s3, .string zw] 9)).cell? ⟨w8.heap.size, j, none⟩ = some (.string x)) := fun j x hj => by
            match j, hj with
            | 0, hj => simp at hj; subst hj; simp [go_sem]
            | 1, hj => simp at hj; subst hj; simp [go_sem]
            | 2, hj => simp at hj; subst hj; simp [go_sem]
            | 3, hj => simp at hj; subst hj; simp [go_sem]
            | 4, hj => simp at hj; subst hj; simp [go_sem]
            | 5, hj => simp at hj; subst hj; simp [go_sem]
            | 6, hj => simp at hj; subst hj; simp [go_sem]
            | j + 7, hj => simp at hj
          have LG : Hid (w8.heap.size < (w8.alloc (.cells #[.string id, .string sk, .string s0, .string s1, .string s2, .string s3, .string zw] 9)).heap.size) := by show _ < _; simp
          have BG : Hid (B ≤ (w8.alloc (.cells #[.string id, .string sk, .string s0, .string s1, .string s2, .string s3, .string zw] 9)).heap.size) := Nat.le_of_lt (Nat.lt_of_le_of_lt T9.out.lt.1 T9.out.lt.2)
          clear AL4 B8 T8 L8 H8 C8
          refine wpAnyH_ready (rs := [19]) (by kernel_rfl) (by simp) ?_
          refine AllReadyH.cons rfl (fun K hK => ?_) AllReadyH.nil
          go_simp
          refine (add_any B B w8.heap.size 7 _ [id, sk, s0, s1, s2, s3, zw] _ T9.out BG.out LG.out (by simp) (by simp) CC.out HLEN.out).mono ?_
          intro e wz had
          obtain ⟨rfl, tz, hbz, hkz⟩ := had
          have TZ : Hid (Tx B B (Pl.oLns id.data.toList os (k + 1)) wz) := by
            rw [HLN.out] at tz
            exact tz
          have BZ := hideP (B9.out.trans (hbz.mono B0.out))
          have SZ := S6.kept H9.out hkz NE.out
          clear tz hbz hkz
          refine hK.out _ _ SZ (fun _ => ?_)
          clear hK SZ
          refine wpAnyH_done (by kernel_rfl) ?_ _
          go_wp2_with fail
          go_roundw
          case rel => exact ⟨k + 1, by omega, by go_num, TZ, BZ⟩
          case measure => simp [intOf]; omega
        · have hlt' : ¬ (k : Int) < (n : Int) := by omega
          have kn : k = n := by omega
          have KS : Hid (Calls Tryd.prog 65 #[.pointer (some ⟨B, 0, none⟩)] wr fun e w' => e = .returned (.string ⟨lns.toArray⟩) ∧ Below B wr w') := by
            have h1 := hTx.out
            rw [kn, HLL.out] at h1
            exact string_any B B _ wr h1 HNE.out
          clear kn
          go_wp2_with fail
          refine KS.out.mono ?_
          rintro e w6 ⟨rfl, hb6⟩
          have B6 := hideP (BB.out.trans (hb6.mono B0.out))
          clear hb6 KS
          go_wp2_with fail
          go_ret2
          exact ⟨rfl, B6.out⟩

theorem implEntry_nil (id : ByteArray) (ao : Option Addr) (cap : Nat) (w : World) (hid : id.size ≤ 1048576) : Calls Tryd.prog 31 #[.string id, .slice ao 0 cap] w fun e w' => e = .returned (.tuple #[.string ByteArray.empty, .bool (Pl.idB id)]) ∧ Below w.heap.size w w' := by
  have KD := hideP (idOk_any id w (by omega))
  have BR := hideP (Below.refl w.heap.size w)
  cases hi : Pl.idB id with
  | false =>
    rw [hi] at KD
    clear hi
    go_enter Tryd.func31, Tryd.ntmps31
    go_wp2_with fail
    refine KD.out.mono ?_
    rintro e w' ⟨rfl, rfl⟩
    go_wp2_with fail
    go_ret2
    exact ⟨rfl, BR.out⟩
  | true =>
    rw [hi] at KD
    have KS := hideP (fun W : World => string_fresh W.heap.size W.heap.size (.pointer none) (W.alloc (.cells #[.pointer none, .slice none 0 0] 86)) (heap_alloc_new W _))
    have AL : Hid (∀ o, Below w.heap.size w (w.alloc o)) := fun o => (Below.refl _ _).alloc (Nat.le_refl _) _
    clear hi
    go_enter Tryd.func31, Tryd.ntmps31
    go_wp2_with fail
    refine KD.out.mono ?_
    rintro e w0 ⟨rfl, rfl⟩
    go_wp2_with fail
    refine (outcomesOk_nil ao cap _).mono ?_
    rintro e w1 ⟨rfl, rfl⟩
    go_wp2_with fail
    go_loop [19] (fun i => i = .int .i64 0) (fun _ => 0)
    case atStart => rfl
    case round =>
      obtain rfl := hrel
      go_wp2_with fail
      refine (KS.out _).mono ?_
      rintro e w2 ⟨rfl, hb2⟩
      have B2 := hideP ((AL.out _).trans hb2)
      clear hb2
      go_wp2_with fail
      go_ret2
      exact ⟨rfl, B2.out⟩

/-- impl.LogEntry -/
theorem implEntry_any (id : ByteArray) (v : Value) (os : List Pl.Ot) (w : World) (hid : id.size ≤ 1048576) (hl : os.length ≤ 1048576) (hbd : ∀ o ∈ os, o.bd) (ht : Tab w) (h : RdO w.heap.size w v os) :
    Calls Tryd.prog 31 #[.string id, v] w fun e w' => e = .returned (.tuple #[.string (Pl.ent id os), .bool (Pl.idB id && Pl.osB os)]) ∧ Below w.heap.size w w' := by
  obtain ⟨ao, cap, rfl, h⟩ := h
  by_cases h0 : os.length = 0
  · obtain rfl := List.length_eq_zero_iff.1 h0
    refine (implEntry_nil id ao cap w hid).mono ?_
    rintro e w' ⟨rfl, hb⟩
    refine ⟨?_, hb⟩
    rw [ent_nil, show Pl.osB [] = true from rfl, Bool.and_true]
  · rcases h with h | ⟨b, off, hb, rfl, hc⟩
    · exact absurd h h0
    · exact implEntry_core id b off cap os w hid hl (by omega) hbd ht hb hc

end Go.Proofs.YtbmkbplgncoapaaDoor
