import Derived.Test.YtmobjomebmipdaaValid2
namespace Go.Proofs.Ytmobjomebmipdaa
open Go.RowKit
set_option linter.unusedVariables false

theorem callF92 (args : Array Value) (w : World) : (callFunc 92 args).run Try.prog w = .ok (.enter 92 args) w := by kernel_rfl
theorem callF93 (args : Array Value) (w : World) : (callFunc 93 args).run Try.prog w = .ok (.enter 93 args) w := by kernel_rfl
theorem callF51 (args : Array Value) (w : World) : (callFunc 51 args).run Try.prog w = .ok (.enter 51 args) w := by kernel_rfl

set_option maxRecDepth 100000 in
set_option maxHeartbeats 4000000 in
/-- each2's first closure -/
theorem c92_any (f : Nat) (r : Int × Int) (p q b off m c1 : Nat) (x y : Int) (w : World) (hcf : ∀ args w, (callFunc f args).run Try.prog w = .ok (.enter f args) w) (co : w.cell? ⟨p, 0, none⟩ = some (.func (.func f) #[] #[])) (ca : w.cell? ⟨q, 1, none⟩ = some (.slice (some ⟨b, off, none⟩) m c1)) (hm : 0 < m)
    (hx : w.cell? ⟨b, off, none⟩ = some (.int .i64 x)) (hf : ∀ w', Calls Try.prog f #[.int .i64 x, .int .i64 y] w' (CPost w' r)) :
    Calls Try.prog 92 #[.int .i64 y, .pointer (some ⟨p, 0, none⟩), .pointer (some ⟨q, 0, none⟩)] w (CPost w r) := by
  have lp := World.block_lt_of_cell? w ⟨p, 0, none⟩ co
  have lq := World.block_lt_of_cell? w ⟨q, 1, none⟩ ca
  have lb := World.block_lt_of_cell? w ⟨b, off, none⟩ hx
  have L0 : ∀ w', Below w.heap.size w w' → w'.cell? ⟨p, 0, none⟩ = some (.func (.func f) #[] #[]) := fun w' h => (h.cell (p := ⟨p, 0, none⟩) lp).trans co
  have L1 : ∀ w', Below w.heap.size w w' → w'.cell? ⟨q, 1, none⟩ = some (.slice (some ⟨b, off, none⟩) m c1) := fun w' h => (h.cell (p := ⟨q, 1, none⟩) lq).trans ca
  have L2 : ∀ w', Below w.heap.size w w' → w'.cell? ⟨b, off, none⟩ = some (.int .i64 x) := fun w' h => (h.cell (p := ⟨b, off, none⟩) lb).trans hx
  have D := hideP (show Below w.heap.size w w.drew from (Below.refl _ _).drew)
  have HF := hideP hf
  clear co ca hx lp lq lb hf
  go_enter Try.func92, Try.ntmps92
  go_wp2_with fail
  refine wp_region_held (S := fun w' => Below w.heap.size w w') (by kernel_rfl) ?_
  change wpAnyH _ _ _ _ _ _ _ _ (World.drew _)
  refine wpAnyH_take (i := 0) (v := .pointer (some ⟨p, 0, none⟩)) rfl (by kernel_rfl) (by kernel_rfl) (by kernel_rfl) (fun _ _ _ h => h) (Or.inl ⟨by rfl, ?_⟩) D.out ?_
  · intro w' hS
    clear L0 L1 L2 hS
    go_simp
  refine wpAnyH_take (i := 1) (v := .func (.func f) #[] #[]) rfl (by kernel_rfl) (by kernel_rfl) (by kernel_rfl) (fun _ _ _ h => h) (Or.inl ⟨by rfl, ?_⟩) D.out ?_
  · intro w' hS
    have := L0 w' hS
    clear L0 L1 L2 hS
    go_simp
  refine wpAnyH_take (i := 2) (v := .pointer (some ⟨q, 1, none⟩)) rfl (by kernel_rfl) (by kernel_rfl) (by kernel_rfl) (fun _ _ _ h => h) (Or.inl ⟨by rfl, ?_⟩) D.out ?_
  · intro w' hS
    clear L0 L1 L2 hS
    go_simp
  refine wpAnyH_take (i := 3) (v := .slice (some ⟨b, off, none⟩) m c1) rfl (by kernel_rfl) (by kernel_rfl) (by kernel_rfl) (fun _ _ _ h => h) (Or.inl ⟨by rfl, ?_⟩) D.out ?_
  · intro w' hS
    have := L1 w' hS
    clear L0 L1 L2 hS
    go_simp
  refine wpAnyH_take (i := 4) (v := .pointer (some ⟨b, off, none⟩)) rfl (by kernel_rfl) (by kernel_rfl) (by kernel_rfl) (fun _ _ _ h => h) (Or.inl ⟨by rfl, ?_⟩) D.out ?_
  · intro w' hS
    clear L0 L1 L2 hS
    go_simp
  refine wpAnyH_take (i := 5) (v := .int .i64 x) rfl (by kernel_rfl) (by kernel_rfl) (by kernel_rfl) (fun _ _ _ h => h) (Or.inl ⟨by rfl, ?_⟩) D.out ?_
  · intro w' hS
    have := L2 w' hS
    clear L0 L1 L2 hS
    go_simp
  refine wpAnyH_take (i := 6) (v := .int .i64 y) rfl (by kernel_rfl) (by kernel_rfl) (by kernel_rfl) (fun _ _ _ h => h) (Or.inl ⟨by rfl, ?_⟩) D.out ?_
  · intro w' hS
    clear L0 L1 L2 hS
    go_simp
  clear L0 L1 L2
  refine wpAnyH_ready (rs := [7]) (by kernel_rfl) (by simp) ?_
  refine AllReadyH.cons rfl (fun K hK => ?_) AllReadyH.nil
  go_simp
  refine (HF.out _).mono ?_
  rintro e w1 ⟨hb, ⟨hr, rfl⟩ | ⟨hr, rfl⟩⟩
  · have B1 := hideP (D.out.trans hb)
    have HR := hideP hr
    clear hb hr
    refine hK.out _ _ B1.out (fun _ => ?_)
    clear hK
    refine wpAnyH_ready (rs := [8]) (by kernel_rfl) (by simp) ?_
    refine AllReadyH.cons rfl (fun K hK => ?_) AllReadyH.nil
    go_simp
    refine hK.out _ _ B1.out (fun _ => ?_)
    clear hK
    refine wpAnyH_done (by kernel_rfl) ?_ _
    go_wp2_with fail
    go_ret
    exact ⟨B1.out, .inl ⟨HR.out, rfl⟩⟩
  · exact ⟨rfl, D.out.trans hb, .inr ⟨hr, rfl⟩⟩

set_option maxRecDepth 100000 in
set_option maxHeartbeats 4000000 in
/-- each2's second closure -/
theorem c93_any (f : Nat) (r : Int × Int) (p q b off m c1 : Nat) (x y : Int) (w : World) (hcf : ∀ args w, (callFunc f args).run Try.prog w = .ok (.enter f args) w) (co : w.cell? ⟨p, 0, none⟩ = some (.func (.func f) #[] #[])) (ca : w.cell? ⟨q, 1, none⟩ = some (.slice (some ⟨b, off, none⟩) m c1)) (hm : 0 < m)
    (hx : w.cell? ⟨b, off, none⟩ = some (.int .i64 x)) (hf : ∀ w', Calls Try.prog f #[.int .i64 y, .int .i64 x] w' (CPost w' r)) :
    Calls Try.prog 93 #[.int .i64 y, .pointer (some ⟨p, 0, none⟩), .pointer (some ⟨q, 0, none⟩)] w (CPost w r) := by
  have lp := World.block_lt_of_cell? w ⟨p, 0, none⟩ co
  have lq := World.block_lt_of_cell? w ⟨q, 1, none⟩ ca
  have lb := World.block_lt_of_cell? w ⟨b, off, none⟩ hx
  have L0 : ∀ w', Below w.heap.size w w' → w'.cell? ⟨p, 0, none⟩ = some (.func (.func f) #[] #[]) := fun w' h => (h.cell (p := ⟨p, 0, none⟩) lp).trans co
  have L1 : ∀ w', Below w.heap.size w w' → w'.cell? ⟨q, 1, none⟩ = some (.slice (some ⟨b, off, none⟩) m c1) := fun w' h => (h.cell (p := ⟨q, 1, none⟩) lq).trans ca
  have L2 : ∀ w', Below w.heap.size w w' → w'.cell? ⟨b, off, none⟩ = some (.int .i64 x) := fun w' h => (h.cell (p := ⟨b, off, none⟩) lb).trans hx
  have D := hideP (show Below w.heap.size w w.drew from (Below.refl _ _).drew)
  have HF := hideP hf
  clear co ca hx lp lq lb hf
  go_enter Try.func93, Try.ntmps93
  go_wp2_with fail
  refine wp_region_held (S := fun w' => Below w.heap.size w w') (by kernel_rfl) ?_
  change wpAnyH _ _ _ _ _ _ _ _ (World.drew _)
  refine wpAnyH_take (i := 0) (v := .pointer (some ⟨p, 0, none⟩)) rfl (by kernel_rfl) (by kernel_rfl) (by kernel_rfl) (fun _ _ _ h => h) (Or.inl ⟨by rfl, ?_⟩) D.out ?_
  · intro w' hS
    clear L0 L1 L2 hS
    go_simp
  refine wpAnyH_take (i := 1) (v := .func (.func f) #[] #[]) rfl (by kernel_rfl) (by kernel_rfl) (by kernel_rfl) (fun _ _ _ h => h) (Or.inl ⟨by rfl, ?_⟩) D.out ?_
  · intro w' hS
    have := L0 w' hS
    clear L0 L1 L2 hS
    go_simp
  refine wpAnyH_take (i := 2) (v := .int .i64 y) rfl (by kernel_rfl) (by kernel_rfl) (by kernel_rfl) (fun _ _ _ h => h) (Or.inl ⟨by rfl, ?_⟩) D.out ?_
  · intro w' hS
    clear L0 L1 L2 hS
    go_simp
  refine wpAnyH_take (i := 3) (v := .pointer (some ⟨q, 1, none⟩)) rfl (by kernel_rfl) (by kernel_rfl) (by kernel_rfl) (fun _ _ _ h => h) (Or.inl ⟨by rfl, ?_⟩) D.out ?_
  · intro w' hS
    clear L0 L1 L2 hS
    go_simp
  refine wpAnyH_take (i := 4) (v := .slice (some ⟨b, off, none⟩) m c1) rfl (by kernel_rfl) (by kernel_rfl) (by kernel_rfl) (fun _ _ _ h => h) (Or.inl ⟨by rfl, ?_⟩) D.out ?_
  · intro w' hS
    have := L1 w' hS
    clear L0 L1 L2 hS
    go_simp
  refine wpAnyH_take (i := 5) (v := .pointer (some ⟨b, off, none⟩)) rfl (by kernel_rfl) (by kernel_rfl) (by kernel_rfl) (fun _ _ _ h => h) (Or.inl ⟨by rfl, ?_⟩) D.out ?_
  · intro w' hS
    clear L0 L1 L2 hS
    go_simp
  refine wpAnyH_take (i := 6) (v := .int .i64 x) rfl (by kernel_rfl) (by kernel_rfl) (by kernel_rfl) (fun _ _ _ h => h) (Or.inl ⟨by rfl, ?_⟩) D.out ?_
  · intro w' hS
    have := L2 w' hS
    clear L0 L1 L2 hS
    go_simp
  clear L0 L1 L2
  refine wpAnyH_ready (rs := [7]) (by kernel_rfl) (by simp) ?_
  refine AllReadyH.cons rfl (fun K hK => ?_) AllReadyH.nil
  go_simp
  refine (HF.out _).mono ?_
  rintro e w1 ⟨hb, ⟨hr, rfl⟩ | ⟨hr, rfl⟩⟩
  · have B1 := hideP (D.out.trans hb)
    have HR := hideP hr
    clear hb hr
    refine hK.out _ _ B1.out (fun _ => ?_)
    clear hK
    refine wpAnyH_ready (rs := [8]) (by kernel_rfl) (by simp) ?_
    refine AllReadyH.cons rfl (fun K hK => ?_) AllReadyH.nil
    go_simp
    refine hK.out _ _ B1.out (fun _ => ?_)
    clear hK
    refine wpAnyH_done (by kernel_rfl) ?_ _
    go_wp2_with fail
    go_ret
    exact ⟨B1.out, .inl ⟨HR.out, rfl⟩⟩
  · exact ⟨rfl, D.out.trans hb, .inr ⟨hr, rfl⟩⟩

end Go.Proofs.Ytmobjomebmipdaa
