import Derived.Test.YtbmkbplgncoapaaDoorR6
namespace Go.Proofs.YtbmkbplgncoapaaDoor
open Go.RowKit
set_option linter.unusedVariables false

/-- verdicts, numbered through from m on -/
def markV (m : Int) : List Pl.Vt → List Pl.Vt
  | [] => []
  | _ :: r => (m, m + 1) :: markV (m + 2) r
theorem markV_len (vs : List Pl.Vt) : ∀ m, (markV m vs).length = vs.length := by
  induction vs with
  | nil => intro m; rfl
  | cons v r ih => intro m; rw [markV, List.length_cons, ih]; rfl
theorem markV_snoc (X : List Pl.Vt) (v : Pl.Vt) : ∀ m, markV m (X ++ [v]) = markV m X ++ [(m + 2 * X.length, m + 2 * X.length + 1)] := by
  induction X with
  | nil => intro m; simp [markV]
  | cons x X ih =>
    intro m
    rw [List.cons_append, markV, markV, ih]
    have e : m + 2 + 2 * (X.length : Int) = m + 2 * ((x :: X).length : Int) := by simp only [List.length_cons]; omega
    rw [e]
    rfl
theorem markV_at (vs : List Pl.Vt) : ∀ (m : Int) (k : Nat), k < vs.length → Pl.at2 (markV m vs) k = (m + 2 * k, m + 2 * k + 1) := by
  induction vs with
  | nil => intro m k h; simp at h
  | cons v r ih =>
    intro m k h
    cases k with
    | zero => simp [markV, Pl.at2]
    | succ k =>
      have := ih (m + 2) k (by simpa using h)
      have e : Pl.at2 (markV m (v :: r)) (k + 1) = Pl.at2 (markV (m + 2) r) k := by simp [markV, Pl.at2]
      rw [e, this]
      have e2 : m + 2 + 2 * (k : Int) = m + 2 * ((k + 1 : Nat) : Int) := by omega
      rw [e2]
/-- the first k are numbered -/
def upM (m : Int) (vs : List Pl.Vt) (k : Nat) : List Pl.Vt := markV m (vs.take k) ++ vs.drop k
theorem upM_len (m : Int) (vs : List Pl.Vt) (k : Nat) (h : k ≤ vs.length) : (upM m vs k).length = vs.length := by
  unfold upM
  rw [List.length_append, markV_len, List.length_take, List.length_drop]
  omega
theorem upM_step (m : Int) (vs : List Pl.Vt) (k : Nat) (h : k < vs.length) : (upM m vs k).set k (m + 2 * k, m + 2 * k + 1) = upM m vs (k + 1) := by
  unfold upM
  have hl : (markV m (vs.take k)).length = k := by rw [markV_len, List.length_take]; omega
  rw [List.set_append_right k _ (by omega), hl, Nat.sub_self, Pl.take_snoc2 vs k h, markV_snoc, List.length_take, Nat.min_eq_left (Nat.le_of_lt h), List.drop_eq_getElem_cons h, List.set_cons_zero, List.append_assoc]
  rfl

set_option maxRecDepth 100000 in
set_option maxHeartbeats 4000000 in
/-- laws.markVerdictS -/
theorem markVerdictS_core (B g cap : Nat) (m : Int) (vs : List Pl.Vt) (w : World) (hm0 : 0 ≤ m) (hm1 : m ≤ 10) (hl : vs.length ≤ 20) (hB : B ≤ g) (h : w.ownsRow B 78 2 (.slice (some ⟨g, 0, none⟩) vs.length cap) vs.length (cellsV vs)) :
    Calls Tryd.prog 26 #[.slice (some ⟨g, 0, none⟩) vs.length cap, .int .i64 m] w fun e w' => e = .returned (.int .i64 (m + 2 * vs.length)) ∧ Below B w w' ∧ w'.ownsRow B 78 2 (.slice (some ⟨g, 0, none⟩) vs.length cap) vs.length (cellsV (markV m vs)) := by
  have H0 : Hid (w.ownsRow B 78 2 (.slice (some ⟨g, 0, none⟩) vs.length cap) vs.length (cellsV (upM m vs 0))) := h
  have BR := hideP (Below.refl B w)
  have HL : Hid (∀ k, k ≤ vs.length → (upM m vs k).length = vs.length) := fun k hk => upM_len m vs k hk
  have HS : Hid (∀ k, k < vs.length → (upM m vs k).set k (m + 2 * k, m + 2 * k + 1) = upM m vs (k + 1)) := fun k hk => upM_step m vs k hk
  have HE : Hid (upM m vs vs.length = markV m vs) := by show _ = _; unfold upM; simp
  clear h
  obtain ⟨n, hn⟩ : ∃ n, vs.length = n := ⟨_, rfl⟩
  rw [hn] at hl H0 HL HS HE ⊢
  clear hn
  go_enter Tryd.func26, Tryd.ntmps26
  go_wp2_with fail
  go_loopw [1, 5] (fun c i wr => ∃ k : Nat, k ≤ n ∧ i = .int .i64 (k : Int) ∧ c = .int .i64 (m + 2 * k) ∧ Hid (wr.ownsRow B 78 2 (.slice (some ⟨g, 0, none⟩) n cap) n (cellsV (upM m vs k))) ∧ Hid (Below B w wr)) (fun _ i _ => n - (intOf i).toNat)
  case atStart => exact ⟨0, Nat.zero_le _, rfl, by simp, H0, BR⟩
  case round =>
    obtain ⟨k, hk, rfl, rfl, hO, BB⟩ := hrel
    by_cases hlt : k < n
    · have hlt' : (k : Int) < (n : Int) := by omega
      have hg := cellsV_get (upM m vs k) k (by rw [HL.out k hk]; exact hlt)
      have hg0 := hO.out.cellAt (k * 2) (by omega)
      have hg1 := hO.out.cellAt (k * 2 + 1) (by omega)
      rw [hg.1] at hg0
      rw [hg.2] at hg1
      have hf0 := hO.out.frozenAt (k * 2)
      have hs0 := hO.out.stored (k * 2) (.int .i64 (m + 2 * k))
      have hf1 := hs0.1.frozenAt (k * 2 + 1)
      have hs1 := hs0.1.stored (k * 2 + 1) (.int .i64 (m + 2 * k + 1))
      have hf2 := hO.out.frozenAt (k * 2 + 1)
      have O4 : Hid (((wr.setCell ⟨g, k * 2, none⟩ (.int .i64 (m + 2 * k))).setCell ⟨g, k * 2 + 1, none⟩ (.int .i64 (m + 2 * k + 1))).ownsRow B 78 2 (.slice (some ⟨g, 0, none⟩) n cap) n (cellsV (upM m vs (k + 1)))) := by
        show World.ownsRow _ _ _ _ _ _ _
        have e := cellsV_set (upM m vs k) k (m + 2 * k, m + 2 * k + 1)
        rw [HS.out k hlt] at e
        rw [← e]
        exact hs1.1
      have B4 : Hid (Below B w ((wr.setCell ⟨g, k * 2, none⟩ (.int .i64 (m + 2 * k))).setCell ⟨g, k * 2 + 1, none⟩ (.int .i64 (m + 2 * k + 1)))) := (BB.out.setCell hB _).setCell hB _
      clear hs0 hs1 hg
      generalize (Pl.at2 (upM m vs k) k) = q at *
      go_wp2_with fail
      go_roundw
      case rel => exact ⟨k + 1, by omega, by go_num, by go_num, O4, B4⟩
      case measure => simp [intOf]; omega
    · have hlt' : ¬ (k : Int) < (n : Int) := by omega
      have kn : k = n := by omega
      have O5 : Hid (wr.ownsRow B 78 2 (.slice (some ⟨g, 0, none⟩) n cap) n (cellsV (markV m vs))) := by
        have h := hO.out
        rw [kn, HE.out] at h
        exact h
      have E5 : Hid ((k : Int) = (n : Int)) := by show _ = _; omega
      clear kn
      go_wp2_with fail
      go_ret
      exact ⟨ret_int (by rw [E5.out]), BB.out, O5.out⟩

theorem markVerdictS_nil (ao : Option Addr) (cap : Nat) (m : Int) (w : World) (hm0 : 0 ≤ m) (hm1 : m ≤ 10) :
    Calls Tryd.prog 26 #[.slice ao 0 cap, .int .i64 m] w fun e w' => e = .returned (.int .i64 m) ∧ w' = w := by
  go_enter Tryd.func26, Tryd.ntmps26
  go_wp2_with fail
  go_loop [1, 5] (fun c i => i = .int .i64 0 ∧ c = .int .i64 m) (fun _ _ => 0)
  case atStart => exact ⟨rfl, rfl⟩
  case round =>
    obtain ⟨rfl, rfl⟩ := hrel
    go_wp2_with fail
    go_ret
    exact ⟨rfl, rfl⟩

theorem heldVerdictS_nil (ao : Option Addr) (cap : Nat) (m : Int) (w : World) (hm0 : 0 ≤ m) (hm1 : m ≤ 10) :
    Calls Tryd.prog 27 #[.slice ao 0 cap, .int .i64 m] w fun e w' => e = .returned (.int .i64 m) ∧ w' = w := by
  go_enter Tryd.func27, Tryd.ntmps27
  go_wp2_with fail
  go_loop [1, 5] (fun c i => i = .int .i64 0 ∧ c = .int .i64 m) (fun _ _ => 0)
  case atStart => exact ⟨rfl, rfl⟩
  case round =>
    obtain ⟨rfl, rfl⟩ := hrel
    go_wp2_with fail
    go_ret
    exact ⟨rfl, rfl⟩

set_option maxRecDepth 100000 in
set_option maxHeartbeats 4000000 in
/-- laws.heldVerdictS -/
theorem heldVerdictS_core (g n cap : Nat) (m : Int) (w : World) (hm0 : 0 ≤ m) (hm1 : m ≤ 10) (hl : n ≤ 20) (hc : ∀ k, k < n → w.cell? ⟨g, k * 2, none⟩ = some (.int .i64 (m + 2 * k)) ∧ w.cell? ⟨g, k * 2 + 1, none⟩ = some (.int .i64 (m + 2 * k + 1))) :
    Calls Tryd.prog 27 #[.slice (some ⟨g, 0, none⟩) n cap, .int .i64 m] w fun e w' => e = .returned (.int .i64 (m + 2 * n)) ∧ w' = w := by
  have HC := hideP hc
  clear hc
  go_enter Tryd.func27, Tryd.ntmps27
  go_wp2_with fail
  go_loop [1, 5] (fun c i => ∃ k : Nat, k ≤ n ∧ i = .int .i64 (k : Int) ∧ c = .int .i64 (m + 2 * k)) (fun _ i => n - (intOf i).toNat)
  case atStart => exact ⟨0, Nat.zero_le _, rfl, by simp⟩
  case round =>
    obtain ⟨k, hk, rfl, rfl⟩ := hrel
    by_cases hlt : k < n
    · have hlt' : (k : Int) < (n : Int) := by omega
      obtain ⟨c0, c1⟩ := HC.out k hlt
      go_wp2_with fail
      go_round
      case rel => exact ⟨k + 1, by omega, by go_num, by go_num⟩
      case measure => simp [intOf]; omega
    · have hlt' : ¬ (k : Int) < (n : Int) := by omega
      have E5 : Hid ((k : Int) = (n : Int)) := by show _ = _; omega
      go_wp2_with fail
      go_ret
      exact ⟨ret_int (by rw [E5.out]), rfl⟩

theorem OwX.keep {B : Nat} {w w' : World} {v : Value} {vs : List Pl.Vt} (h : OwX B w v vs) (hb : Below w.heap.size w w') : OwX B w' v vs := by
  rcases h with h | h
  · exact .inl h
  · exact .inr (owns_keep h hb)
theorem OwX.rd {B : Nat} {w : World} {v : Value} {vs : List Pl.Vt} (h : OwX B w v vs) : RdV w.heap.size w v vs := by
  rcases h with ⟨rfl, ao, cap, rfl⟩ | h
  · exact ⟨ao, cap, rfl, .inl rfl⟩
  · rcases hh : h.2 with ⟨e, h0⟩ | ⟨g, cp, cur, e, _⟩
    · exact ⟨none, 0, by rw [h0]; exact e, .inl h0⟩
    · subst e
      exact rdV_of_own h

/-- the marks, and that they are all there -/
theorem markheldV (B : Nat) (v : Value) (vs : List Pl.Vt) (w : World) (hl : vs.length ≤ 20) (h : OwX B w v vs) :
    ∃ T : Nat, T ≤ 40 ∧ Calls Tryd.prog 26 #[v, .int .i64 1] w fun e w' => e = .returned (.int .i64 (1 + T)) ∧ Below B w w' ∧ Calls Tryd.prog 27 #[v, .int .i64 1] w' fun e w'' => e = .returned (.int .i64 (1 + T)) ∧ w'' = w' := by
  have nilcase : ∀ ao cap, v = .slice ao 0 cap → ∃ T : Nat, T ≤ 40 ∧ Calls Tryd.prog 26 #[v, .int .i64 1] w fun e w' => e = .returned (.int .i64 (1 + T)) ∧ Below B w w' ∧ Calls Tryd.prog 27 #[v, .int .i64 1] w' fun e w'' => e = .returned (.int .i64 (1 + T)) ∧ w'' = w' := by
    rintro ao cap rfl
    refine ⟨0, by omega, (markVerdictS_nil ao cap 1 w (by omega) (by omega)).mono ?_⟩
    rintro e w' ⟨rfl, rfl⟩
    exact ⟨rfl, Below.refl _ _, heldVerdictS_nil ao cap 1 w' (by omega) (by omega)⟩
  rcases h with ⟨rfl, ao, cap, e⟩ | h
  · exact nilcase ao cap e
  · rcases hh : h.2 with ⟨e, h0⟩ | ⟨g, cp, cur, e, _⟩
    · exact nilcase none 0 e
    · subst e
      have e2 : (1 : Int) + 2 * (vs.length : Int) = 1 + ((2 * vs.length : Nat) : Int) := by omega
      refine ⟨2 * vs.length, by omega, (markVerdictS_core B g cp 1 vs w (by omega) (by omega) hl (h.lt g rfl).1 h).mono ?_⟩
      rintro e w' ⟨rfl, hb, ho⟩
      refine ⟨by rw [e2], hb, ?_⟩
      rw [← e2]
      refine heldVerdictS_core g vs.length cp 1 w' (by omega) (by omega) hl (fun k hk => ?_)
      have hg := cellsV_get (markV 1 vs) k (by rw [markV_len]; exact hk)
      rw [markV_at vs 1 k hk] at hg
      rw [ho.cellAt (k * 2) (by omega), ho.cellAt (k * 2 + 1) (by omega)]
      exact hg

theorem rVs_len (t : List UInt8) : (Pl.rVs t).length ≤ 20 := by
  unfold Pl.rVs
  cases h : Pl.rdR t with
  | none => simp
  | some q =>
    by_cases hp : ∃ p : ByteArray × List Pl.Vt, Pl.Acc t p.1 p.2
    · obtain ⟨p, hp⟩ := hp
      have := Pl.rdR_yes hp
      rw [this] at h
      have e := Option.some.inj h
      rw [← e]
      exact hp.all.1
    · have := Pl.rdR_no (t := t) (fun id vs ha => hp ⟨(id, vs), ha⟩)
      rw [this] at h
      cases h

set_option maxRecDepth 100000 in
set_option maxHeartbeats 8000000 in
theorem lawRR (s : ByteArray) (id : ByteArray) (vs : List Pl.Vt) (ok : Bool) (w : World) (hsz : s.size ≤ 9223372036854775807) (hl20 : vs.length ≤ 20)
    (hspec : ∀ w', s.size ≤ 1048576 → Below w.heap.size w w' → Calls Tryd.prog 24 #[.string s] w' fun e w'' => Below w'.heap.size w' w'' ∧ ∃ v, e = .returned (.tuple #[.string id, v, .bool ok]) ∧ OwX w'.heap.size w'' v vs)
    (himpl : ∀ w', s.size ≤ 1048576 → Below w.heap.size w w' → Calls Tryd.prog 25 #[.string s] w' fun e w'' => Below w'.heap.size w' w'' ∧ ∃ v, e = .returned (.tuple #[.string id, v, .bool ok]) ∧ OwX w'.heap.size w'' v vs) :
    Calls Tryd.prog 6 #[.string s] w fun e w' => e = .returned (.bool true) ∧ Below w.heap.size w w' := by
  have HS := hideP hspec
  have HI := hideP himpl
  have HB := hideP hl20
  have B0 := hideP (Below.refl w.heap.size w)
  have L : Hid (vs.length ≤ 1048576) := by show _ ≤ _; omega
  clear hspec himpl hl20
  by_cases hlong : 1048576 < s.size
  · have hlong' : (1048576 : Int) < (s.size : Int) := by omega
    go_enter Tryd.func6, Tryd.ntmps6
    go_wp2_with fail
    go_ret
    exact ⟨rfl, B0.out⟩
  · have hlong' : ¬ (1048576 : Int) < (s.size : Int) := by omega
    have hl : s.size ≤ 1048576 := by omega
    clear hlong
    go_enter Tryd.func6, Tryd.ntmps6
    go_wp2_with fail
    refine (HS.out _ hl B0.out).mono ?_
    rintro e w3 ⟨hb3, vw, rfl, ow3⟩
    have B3 := hideP hb3
    have RW := hideP ow3.rd
    have BELOW3 := hideP hb3.size
    clear hb3 ow3 HS B0
    go_wp2_with fail
    refine (HI.out _ hl B3.out).mono ?_
    rintro e w5 ⟨hb5, vg, rfl, ow5⟩
    have B5 := hideP (B3.out.trans (hb5.mono B3.out.size))
    have G5 := hideP ow5
    have sz5 := hideP hb5.size
    have RW5 := hideP (RW.out.keep hb5)
    clear hb5 ow5 B3 RW
    go_wp2_with fail
    refine (eqVerdictS_same vg vw vs _ L.out G5.out.rd (RW5.out.up sz5.out)).mono ?_
    rintro e w6 ⟨rfl, hb6⟩
    have B6 := hideP (B5.out.trans (hb6.mono B5.out.size))
    have G6 := hideP (G5.out.keep hb6)
    have RW6 := hideP (RW5.out.keep (hb6.mono sz5.out))
    have sz6 := hideP (Nat.le_trans sz5.out hb6.size)
    clear hb6 B5 G5 RW5 sz5
    go_wp2_with fail
    obtain ⟨T, hT, hmark⟩ := markheldV _ vg vs _ HB.out G6.out
    refine hmark.mono ?_
    rintro e w7 ⟨rfl, hb7, hheld⟩
    have B7 : Hid (Below w.heap.size w w7) := B6.out.trans (hb7.mono BELOW3.out)
    have RW7 := hideP (RW6.out.keep hb7)
    have sz7 := hideP (Nat.le_trans sz6.out hb7.size)
    have HH := hideP hheld
    clear hmark hb7 hheld B6 RW6 G6 sz6
    go_wp2_with fail
    refine HH.out.mono ?_
    rintro e w8 ⟨rfl, rfl⟩
    have qn : ¬ ((1 : Int) + T < 0) := by omega
    clear HH
    go_wp2_with fail
    refine (HI.out _ hl B7.out).mono ?_
    rintro e w9 ⟨hb9, vh, rfl, ow9⟩
    have B9 := hideP (B7.out.trans (hb9.mono B7.out.size))
    have G9 := hideP ow9.rd
    have RW9 := hideP ((RW7.out.keep (hb9.mono sz7.out)).up (Nat.le_trans sz7.out hb9.size))
    clear hb9 ow9 B7 RW7 sz7 HI
    go_wp2_with fail
    refine (eqVerdictS_same vh vw vs _ L.out G9.out RW9.out).mono ?_
    rintro e w10 ⟨rfl, hb10⟩
    have B10 := hideP (B9.out.trans (hb10.mono B9.out.size))
    clear hb10
    go_wp2_with fail
    go_ret
    exact ⟨rfl, B10.out⟩

/-- laws.FnExactReadReport -/
theorem lawRead (s : ByteArray) (w : World) (hsz : s.size ≤ 9223372036854775807) (hev : Ev w) (hk : Kw w) : Calls Tryd.prog 6 #[.string s] w fun e w' => e = .returned (.bool true) ∧ Below w.heap.size w w' :=
  lawRR s _ _ _ w hsz (rVs_len (bl s)) (fun w' hl _ => specRead_any s w' hl) (fun w' hl hb => implRead_any s w' hl (hev.keep hb) (hk.keep hb))

end Go.Proofs.YtbmkbplgncoapaaDoor
