import Derived.Test.YtmobjomebmipdaaS5
namespace Go.Proofs.Ytmobjomebmipdaa
open Go.RowKit
set_option linter.unusedVariables false

/-- slices.symMergeCmpFunc -/
theorem symMerge_any (B0 : Nat) (w0 : World) (pa g off cap n : Nat) (k : Int → Int) (ok : Int → Prop) (hX : Cx B0 w0 pa g n k ok) (hn : n ≤ 1000000) : ∀ (K a m b : Nat) (f : Nat → Int) (w : World), b - a ≤ K → a < m → m < b → b ≤ n → Rw g off n f w → (∀ t, t < n → ok (f t)) → Pl.SrtF k f a m → Pl.SrtF k f m b → Below B0 w0 w →
    Calls Try.prog 157 #[.slice (some ⟨g, off, none⟩) n cap, .int .i64 (a : Int), .int .i64 (m : Int), .int .i64 (b : Int), cl pa] w (SmPost g off n a m b k f w) := by
  intro K
  induction K with
  | zero => intro a m b f w h1 h2 h3; omega
  | succ K ih =>
    intro a m b f w h1 h2 h3 h4 hR hok sL sR hB
    by_cases e1 : m = a + 1
    · exact sm_left B0 w0 pa g off cap n a m b k ok f w hX hR e1 h3 h4 hn hok sR hB
    · by_cases e2 : b = m + 1
      · exact sm_right B0 w0 pa g off cap n a m b k ok f w hX hR (by omega) e2 h4 hn hok sL hB
      · exact sm_gen B0 w0 pa g off cap n a m b k ok f w hX hR (by omega) (by omega) h4 hn hok sL sR hB (fun a' m' b' f' w' q1 q2 q3 q4 q5 q6 q7 q8 q9 => ih a' m' b' f' w' (by omega) q2 q3 q4 q5 q6 q7 q8 q9)

namespace Pl
/-- the places from x to y are in their order -/
def Dn (k : Int → Int) (F : Nat → Int) (x y : Nat) : Prop := seg F x y = grd k x (y - x)
theorem Dn.congr {k : Int → Int} {F G : Nat → Int} {x y : Nat} (h : Dn k F x y) (e : ∀ t, x ≤ t → t < y → G t = F t) : Dn k G x y := (seg_congr e).trans h
theorem Dn.srt {k : Int → Int} {F : Nat → Int} {x y : Nat} (h : Dn k F x y) : SrtF k F x y := srtF_of (by rw [h]; exact srt_grd _ _ _)
theorem Dn.mrg {k : Int → Int} {F G : Nat → Int} {x y z : Nat} (h1 : Dn k F x y) (h2 : Dn k F y z) (hxy : x ≤ y) (hyz : y ≤ z) (e : seg G x z = Pl.mrg k (seg F x y) (seg F y z)) : Dn k G x z := by
  unfold Dn at h1 h2 ⊢
  rw [e, h1, h2]
  have := mrg_grd k x (y - x) (z - y)
  rw [show x + (y - x) = y by omega, show y - x + (z - y) = z - x by omega] at this
  exact this
/-- x is some blocks of B -/
def Al (B x : Nat) : Prop := ∃ r, x = r * B
theorem al_step {B x y : Nat} (hx : Al B x) (hy : Al B y) (h : x < y) : x + B ≤ y := by
  obtain ⟨r, rfl⟩ := hx
  obtain ⟨q, rfl⟩ := hy
  have : r < q := Nat.lt_of_mul_lt_mul_right h
  have := Nat.mul_le_mul_right B (show r + 1 ≤ q by omega)
  rw [Nat.succ_mul] at this
  exact this
theorem al_zero (B : Nat) : Al B 0 := ⟨0, by simp⟩
theorem al_add {B x : Nat} (h : Al B x) : Al B (x + B) := by
  obtain ⟨r, rfl⟩ := h
  exact ⟨r + 1, by rw [Nat.succ_mul]⟩
theorem al_two {B x : Nat} (h : Al (2 * B) x) : Al B x := by
  obtain ⟨r, rfl⟩ := h
  exact ⟨2 * r, by rw [Nat.mul_comm 2 r, Nat.mul_assoc]⟩
/-- the blocks of B from p on, and those of C up to p -/
def Blk (k : Int → Int) (F : Nat → Int) (n B p : Nat) : Prop := ∀ x, Al B x → p ≤ x → x < n → Dn k F x (min (x + B) n)
def Blo (k : Int → Int) (F : Nat → Int) (n B p : Nat) : Prop := ∀ x, Al B x → x < p → x < n → Dn k F x (min (x + B) n)
theorem Blo.all {k : Int → Int} {F : Nat → Int} {n B p : Nat} (h : Blo k F n B p) (hp : n ≤ p) : Blk k F n B 0 := fun x hx _ hn => h x hx (by omega) hn
end Pl

theorem grd_ok {k : Int → Int} {ok : Int → Prop} {n x y : Nat} (h : ∀ t : Nat, t < n → ok (t : Int)) (hy : y ≤ n) : ∀ z ∈ Pl.grd k x (y - x), ok z := by
  intro z hz
  have := Pl.mem_grd hz
  by_cases hxy : x ≤ y
  · obtain ⟨t, rfl⟩ := Int.eq_ofNat_of_zero_le (show 0 ≤ z by omega)
    exact h t (by omega)
  · rw [show y - x = 0 by omega] at hz
    cases hz
theorem dn_ok {k : Int → Int} {ok : Int → Prop} {F G : Nat → Int} {n x y : Nat} (h : ∀ t : Nat, t < n → ok (t : Int)) (hy : y ≤ n) (hF : ∀ t, t < n → ok (F t)) (hd : Pl.Dn k G x y) (ho : ∀ t, (t < x ∨ y ≤ t) → G t = F t) : ∀ t, t < n → ok (G t) := by
  intro t ht
  by_cases hin : x ≤ t ∧ t < y
  · have hm : G t ∈ Pl.seg G x y := Pl.seg_in hin.1 hin.2
    rw [hd] at hm
    exact grd_ok h hy _ hm
  · rw [ho t (by omega)]
    exact hF t ht

/-- the row under way -/
structure Sx (B0 : Nat) (w0 : World) (g off n : Nat) (ok : Int → Prop) (w : World) (F : Nat → Int) (wr : World) : Prop where
  r : Rw g off n F wr
  o : ∀ t, t < n → ok (F t)
  g : Gr g w wr
  b : Below B0 w0 wr

set_option maxRecDepth 100000 in
set_option maxHeartbeats 16000000 in
/-- slices.stableCmpFunc, of the places in a row -/
theorem stable_any (B0 : Nat) (w0 : World) (pa g off cap n : Nat) (k : Int → Int) (ok : Int → Prop) (f : Nat → Int) (w : World) (hX : Cx B0 w0 pa g n k ok) (hR : Rw g off n f w) (hn : n ≤ 1000000) (hid : ∀ t, t < n → f t = (t : Int)) (hB : Below B0 w0 w) :
    Calls Try.prog 153 #[.slice (some ⟨g, off, none⟩) n cap, .int .i64 (n : Int), cl pa] w fun e w' => e = .returned (.tuple #[]) ∧ (∃ f', Rw g off n f' w' ∧ Pl.seg f' 0 n = Pl.grd k 0 n) ∧ Gr g w w' := by
  have HX := hideP hX
  have HSW : Hid (B0 ≤ w.heap.size) := Nat.le_trans hX.g (Nat.le_of_lt hR.1)
  have S0 : Hid (Sx B0 w0 g off n ok w f w) := ⟨hR, fun t ht => by rw [hid t ht]; exact hX.ok t ht, Gr.refl _ _, hB⟩
  have HID := hideP hid
  have KI : Hid (∀ (F : Nat → Int) (W : World) (p q : Nat), Sx B0 w0 g off n ok w F W → p ≤ q → q ≤ n → (∀ t, p ≤ t → t < n → F t = (t : Int)) → Calls Try.prog 156 #[.slice (some ⟨g, off, none⟩) n cap, .int .i64 (p : Int), .int .i64 (q : Int), cl pa] W fun e w' => e = .returned (.tuple #[]) ∧ ∃ F', Sx B0 w0 g off n ok w F' w' ∧ Pl.Dn k F' p q ∧ ∀ t, (t < p ∨ q ≤ t) → F' t = F t) := fun F W p q hs hpq hq hd =>
    (insertion_any B0 w0 pa g off cap n p q k ok F W HX.out hs.r hpq hq hn (fun t h1 h2 => hd t h1 (by omega)) hs.b).mono fun e w' ⟨he, ⟨F', r', d', o'⟩, g'⟩ =>
      ⟨he, F', ⟨r', dn_ok HX.out.ok hq hs.o d' o', hs.g.trans g', g'.keep hs.b HX.out.g (Nat.le_trans HSW.out hs.g.size)⟩, d', o'⟩
  have KM : Hid (∀ (F : Nat → Int) (W : World) (x y z : Nat), Sx B0 w0 g off n ok w F W → x < y → y < z → z ≤ n → Pl.Dn k F x y → Pl.Dn k F y z → Calls Try.prog 157 #[.slice (some ⟨g, off, none⟩) n cap, .int .i64 (x : Int), .int .i64 (y : Int), .int .i64 (z : Int), cl pa] W fun e w' => e = .returned (.tuple #[]) ∧ ∃ F', Sx B0 w0 g off n ok w F' w' ∧ Pl.Dn k F' x z ∧ ∀ t, (t < x ∨ z ≤ t) → F' t = F t) := fun F W x y z hs hxy hyz hz d1 d2 =>
    (symMerge_any B0 w0 pa g off cap n k ok HX.out hn (z - x) x y z F W (Nat.le_refl _) hxy hyz hz hs.r hs.o d1.srt d2.srt hs.b).mono fun e w' ⟨he, ⟨F', r', d', o'⟩, g'⟩ => by
      have dd := d1.mrg d2 (by omega) (by omega) d'
      exact ⟨he, F', ⟨r', dn_ok HX.out.ok hz hs.o dd o', hs.g.trans g', g'.keep hs.b HX.out.g (Nat.le_trans HSW.out hs.g.size)⟩, dd, o'⟩
  clear hX hR hid hB HSW
  go_enter Try.func153, Try.ntmps153
  go_wp2_with fail
  go_loopw [7, 8] (fun va vb wr => ∃ (p : Nat) (F : Nat → Int), Hid (Pl.Al 20 p) ∧ p ≤ n ∧ va = .int .i64 (p : Int) ∧ vb = .int .i64 ((p : Int) + 20) ∧ Hid (Sx B0 w0 g off n ok w F wr) ∧ Hid (Pl.Blo k F n 20 p) ∧ Hid (∀ t, p ≤ t → t < n → F t = (t : Int))) (fun va _ _ => n - (intOf va).toNat)
  case atStart => exact ⟨0, f, Pl.al_zero _, Nat.zero_le _, rfl, rfl, S0, fun x _ h => by omega, fun t _ ht => HID.out t ht⟩
  case round =>
    obtain ⟨p, F, hAl, hpn, rfl, rfl, SX, hBl, hI⟩ := hrel
    clear S0
    by_cases hle : p + 20 ≤ n
    · have hle' : (p : Int) + 20 ≤ (n : Int) := by omega
      have KI' := hideP (KI.out F wr p (p + 20) SX.out (by omega) hle hI.out)
      rw [show ((p + 20 : Nat) : Int) = (p : Int) + 20 by omega] at KI'
      go_wp2_with fail
      refine KI'.out.mono ?_
      rintro e w2 ⟨rfl, F', hs', hd', ho'⟩
      have S2 := hideP hs'
      have B2 : Hid (Pl.Blo k F' n 20 (p + 20)) := fun x hx hlt hxn => by
        by_cases hxp : x < p
        · have := Pl.al_step hx hAl.out hxp
          exact (hBl.out x hx hxp hxn).congr fun t _ t2 => ho' t (.inl (by omega))
        · have : x = p := by
            by_cases h : p < x
            · have := Pl.al_step hAl.out hx h; omega
            · omega
          subst this
          rw [Nat.min_eq_left hle]
          exact hd'
      have I2 : Hid (∀ t, p + 20 ≤ t → t < n → F' t = (t : Int)) := fun t h1 h2 => (ho' t (.inr h1)).trans (hI.out t (by omega) h2)
      have A2 := hideP (Pl.al_add hAl.out)
      clear hs' hd' ho' KI'
      go_wp2_with fail
      go_roundw
      case rel => exact ⟨p + 20, F', A2, hle, by go_num, by go_num, S2, B2, I2⟩
      case measure => simp [intOf]; omega
    · have hle' : ¬ (p : Int) + 20 ≤ (n : Int) := by omega
      have KI' := hideP (KI.out F wr p n SX.out hpn (Nat.le_refl _) hI.out)
      go_wp2_with fail
      refine KI'.out.mono ?_
      rintro e w2 ⟨rfl, F', hs', hd', ho'⟩
      have S2 := hideP hs'
      have B2 : Hid (Pl.Blk k F' n 20 0) := fun x hx _ hxn => by
        by_cases hxp : x < p
        · have := Pl.al_step hx hAl.out hxp
          exact (hBl.out x hx hxp hxn).congr fun t _ t2 => ho' t (.inl (by omega))
        · have : x = p := by
            by_cases h : p < x
            · have := Pl.al_step hAl.out hx h; omega
            · omega
          subst this
          rw [Nat.min_eq_right (by omega)]
          exact hd'
      clear hs' hd' ho' KI' SX hBl hI hAl
      go_wp2_with fail
      go_loopw [6, 7, 8, 9] (fun vB _ _ _ wr => ∃ (B : Nat) (F : Nat → Int), 0 < B ∧ B ≤ 2 * n + 20 ∧ vB = .int .i64 (B : Int) ∧ Hid (Sx B0 w0 g off n ok w F wr) ∧ Hid (Pl.Blk k F n B 0)) (fun vB _ _ _ _ => n - (intOf vB).toNat)
      case atStart => exact ⟨20, F', by omega, by omega, rfl, S2, B2⟩
      case round =>
        clear S2 B2
        obtain ⟨B, F, hB0, hBn, rfl, SX, hBl⟩ := hrel
        by_cases hlt : B < n
        · have hlt' : (B : Int) < (n : Int) := by omega
          go_wp2_with fail
          go_loopw [7, 8] (fun va vb wr => ∃ (p : Nat) (F : Nat → Int), Hid (Pl.Al (2 * B) p) ∧ p ≤ n ∧ va = .int .i64 (p : Int) ∧ vb = .int .i64 ((p : Int) + 2 * (B : Int)) ∧ Hid (Sx B0 w0 g off n ok w F wr) ∧ Hid (Pl.Blo k F n (2 * B) p) ∧ Hid (Pl.Blk k F n B p)) (fun va _ _ => n - (intOf va).toNat)
          case atStart => exact ⟨0, F, Pl.al_zero _, Nat.zero_le _, rfl, by go_num, SX, fun x _ h => by omega, hBl⟩
          case round =>
            clear SX hBl
            obtain ⟨p, F, hAl, hpn, rfl, rfl, SX, hBo, hBl⟩ := hrel
            have D1 : Hid (p < n → Pl.Dn k F p (min (p + B) n)) := fun h => hBl.out p (Pl.al_two hAl.out) (Nat.le_refl _) h
            have D2 : Hid (p + B < n → Pl.Dn k F (p + B) (min (p + B + B) n)) := fun h => hBl.out (p + B) (Pl.al_add (Pl.al_two hAl.out)) (by omega) h
            by_cases hle : p + 2 * B ≤ n
            · have hle' : (p : Int) + 2 * (B : Int) ≤ (n : Int) := by omega
              have KM' := hideP (KM.out F wr p (p + B) (p + 2 * B) SX.out (by omega) (by omega) hle (by have := D1.out (by omega); rw [Nat.min_eq_left (by omega)] at this; exact this) (by have := D2.out (by omega); rw [Nat.min_eq_left (by omega), show p + B + B = p + 2 * B by omega] at this; exact this))
              rw [show ((p + B : Nat) : Int) = (p : Int) + (B : Int) by omega, show ((p + 2 * B : Nat) : Int) = (p : Int) + 2 * (B : Int) by omega] at KM'
              go_wp2_with fail
              refine KM'.out.mono ?_
              rintro e w3 ⟨rfl, F', hs', hd', ho'⟩
              have S2 := hideP hs'
              have B2 : Hid (Pl.Blo k F' n (2 * B) (p + 2 * B)) := fun x hx hlt hxn => by
                by_cases hxp : x < p
                · have := Pl.al_step hx hAl.out hxp
                  exact (hBo.out x hx hxp hxn).congr fun t _ t2 => ho' t (.inl (by omega))
                · have : x = p := by
                    by_cases h : p < x
                    · have := Pl.al_step hAl.out hx h; omega
                    · omega
                  subst this
                  rw [Nat.min_eq_left hle]
                  exact hd'
              have B3 : Hid (Pl.Blk k F' n B (p + 2 * B)) := fun x hx hlt hxn => (hBl.out x hx (by omega) hxn).congr fun t t1 _ => ho' t (.inr (by omega))
              have A2 := hideP (Pl.al_add hAl.out)
              clear hs' hd' ho' KM'
              go_wp2_with fail
              go_roundw
              case rel => exact ⟨p + 2 * B, F', A2, hle, by go_num, by go_num, S2, B2, B3⟩
              case measure => simp [intOf]; omega
            · have hle' : ¬ (p : Int) + 2 * (B : Int) ≤ (n : Int) := by omega
              have OUT : Hid (∀ F', Pl.Dn k F' p n → (∀ t, t < p → F' t = F t) → Pl.Blk k F' n (2 * B) 0) := fun F' hd' ho' x hx _ hxn => by
                by_cases hxp : x < p
                · have := Pl.al_step hx hAl.out hxp
                  exact (hBo.out x hx hxp hxn).congr fun t _ t2 => ho' t (by omega)
                · have : x = p := by
                    by_cases h : p < x
                    · have := Pl.al_step hAl.out hx h; omega
                    · omega
                  subst this
                  rw [Nat.min_eq_right (by omega)]
                  exact hd'
              by_cases hm : p + B < n
              · have hm' : (p : Int) + (B : Int) < (n : Int) := by omega
                have KM' := hideP (KM.out F wr p (p + B) n SX.out (by omega) hm (Nat.le_refl _) (by have := D1.out (by omega); rw [Nat.min_eq_left (by omega)] at this; exact this) (by have := D2.out hm; rw [Nat.min_eq_right (by omega)] at this; exact this))
                rw [show ((p + B : Nat) : Int) = (p : Int) + (B : Int) by omega] at KM'
                go_wp2_with fail
                refine KM'.out.mono ?_
                rintro e w3 ⟨rfl, F', hs', hd', ho'⟩
                have S2 := hideP hs'
                have B2 := hideP (OUT.out F' hd' (fun t ht => ho' t (.inl ht)))
                clear hs' hd' ho' KM'
                go_wp2_with fail
                go_roundw
                case rel => exact ⟨2 * B, F', by omega, by omega, by congr 1; omega, S2, B2⟩
                case measure => simp [intOf]; omega
              · have hm' : ¬ (p : Int) + (B : Int) < (n : Int) := by omega
                have B2 : Hid (Pl.Blk k F n (2 * B) 0) := OUT.out F (by
                  by_cases hp : p < n
                  · have := D1.out hp
                    rw [Nat.min_eq_right (by omega)] at this
                    exact this
                  · unfold Pl.Dn
                    rw [Pl.seg_nil F (by omega), show n - p = 0 by omega]
                    rfl) (fun _ _ => rfl)
                go_wp2_with fail
                go_roundw
                case rel => exact ⟨2 * B, F, by omega, by omega, by congr 1; omega, SX, B2⟩
                case measure => simp [intOf]; omega
        · have hlt' : ¬ (B : Int) < (n : Int) := by omega
          have HE : Hid (Pl.seg F 0 n = Pl.grd k 0 n) := by
            show _ = _
            by_cases h0 : 0 < n
            · have := hBl.out 0 (Pl.al_zero _) (Nat.le_refl _) h0
              rw [Nat.min_eq_right (by omega)] at this
              exact this
            · rw [Pl.seg_nil F (by omega), show n = 0 by omega]
              rfl
          go_wp2_with fail
          go_end0
          exact ⟨rfl, ⟨F, SX.out.r, HE.out⟩, SX.out.g⟩

/-- slices.SortStableFunc -/
theorem sortStable_any (B0 : Nat) (w0 : World) (pa g off cap n : Nat) (k : Int → Int) (ok : Int → Prop) (f : Nat → Int) (w : World) (hX : Cx B0 w0 pa g n k ok) (hR : Rw g off n f w) (hn : n ≤ 1000000) (hid : ∀ t, t < n → f t = (t : Int)) (hB : Below B0 w0 w) :
    Calls Try.prog 144 #[.slice (some ⟨g, off, none⟩) n cap, cl pa] w fun e w' => e = .returned (.tuple #[]) ∧ (∃ f', Rw g off n f' w' ∧ Pl.seg f' 0 n = Pl.grd k 0 n) ∧ Gr g w w' := by
  have K := hideP (stable_any B0 w0 pa g off cap n k ok f w hX hR hn hid hB)
  clear hX hR hid hB
  go_enter Try.func144, Try.ntmps144
  go_wp2_with fail
  refine K.out.mono ?_
  rintro e w' ⟨rfl, h, hg⟩
  have H := hideP h
  have HG := hideP hg
  clear h hg
  go_wp2_with fail
  go_end0
  exact ⟨rfl, H.out, HG.out⟩

end Go.Proofs.Ytmobjomebmipdaa
