import Derived.Test.YtacapaiadggemaaGreatOne
import Derived.Deep.RegionHeld3
import Derived.Deep.RegionHeld2
import Derived.Test.YtacapaiadggemaaGreatS1
namespace Go.Proofs.YtacapaiadggemaaGreat
open Go.RowKit
set_option maxRecDepth 100000
set_option maxHeartbeats 16000000
set_option linter.unusedVariables false
theorem valid_new (v0 v1:Value) (sh da:List Int) (w:World) (hl0:sh.length<=1048576) (hl1:da.length<=1048576) (h0:Rd w.heap.size w v0 sh) (h1:Rd w.heap.size w v1 da) (t:TypeId) :
  Calls Tryz.prog 31 #[.slice (some ⟨w.heap.size,0,none⟩) 1 1] (w.alloc (.cells #[v0,v1] t)) fun e w'=>Below w.heap.size w w'/\((Pl.okB sh da=true/\e=.returned (.tuple #[]))\/(Pl.okB sh da=false/\e=.panicked [thrown 9])):=by
 have A:Below w.heap.size w (w.alloc (.cells #[v0,v1] t)):=(Below.refl _ _).alloc (Nat.le_refl _) _
 refine (needValid1 w.heap.size v0 v1 sh da (w.alloc (.cells #[v0,v1] t)) hl0 hl1 (by simp) (by simp [go_sem]) (by simp [go_sem]) ((h0.keep A).up (by simp)) ((h1.keep A).up (by simp))).mono ?_
 rintro e w' ⟨hb,hor⟩
 exact ⟨A.trans (hb.mono (by simp)),hor⟩
theorem valid_new' (v0 v1:Value) (sh da:List Int) (w:World) (hl0:sh.length<=1048576) (hl1:da.length<=1048576) (h0:Rd w.heap.size w v0 sh) (h1:Rd w.heap.size w v1 da) (o:Obj) (t:TypeId) :
  Calls Tryz.prog 31 #[.slice (some ⟨w.heap.size+1,0,none⟩) 1 1] ((w.alloc o).alloc (.cells #[v0,v1] t)) fun e w'=>Below (w.heap.size+1) (w.alloc o) w'/\((Pl.okB sh da=true/\e=.returned (.tuple #[]))\/(Pl.okB sh da=false/\e=.panicked [thrown 9])):=by
 have A:Below w.heap.size w (w.alloc o):=(Below.refl _ _).alloc (Nat.le_refl _) _
 have:=valid_new v0 v1 sh da (w.alloc o) hl0 hl1 ((h0.keep A).up (by simp)) ((h1.keep A).up (by simp)) t
 rw [show (w.alloc o).heap.size=w.heap.size+1 from by simp] at this
 exact this
theorem each1c_bad (pa po:Nat) (v0 v1:Value) (sh da:List Int) (w:World) (hl0:sh.length<=1048576) (hl1:da.length<=1048576) (h0:Rd w.heap.size w v0 sh) (h1:Rd w.heap.size w v1 da)
  (ca0:w.cell? ⟨pa,0,none⟩=some v0) (ca1:w.cell? ⟨pa,1,none⟩=some v1) (hpa:pa<w.heap.size) (hok:Pl.okB sh da=false) :
  Calls Tryz.prog 30 #[.pointer (some ⟨pa,0,none⟩),.pointer (some ⟨po,0,none⟩)] w (KPost w 9 [] []):=by
 have A:Hid (∀o,Below w.heap.size w (w.alloc o)):=fun o=>(Below.refl _ _).alloc (Nat.le_refl _) _
 have K:=hideP (valid_new' v0 v1 sh da w hl0 hl1 h0 h1)
 have HK:=hideP hok
 obtain ⟨a0,d0,e0⟩:=h0.form
 obtain ⟨a1,d1,e1⟩:=h1.form
 subst e0 e1
 clear h0 h1 hok
 have ne:¬pa=w.heap.size:=by omega
 go_enter Tryz.func30,Tryz.ntmps30
 go_wp2_with fail
 refine (K.out _ _).mono ?_
 rintro e w1 ⟨hb,⟨hq,rfl⟩ | ⟨_,rfl⟩⟩
 ·rw [HK.out] at hq; cases hq
 exact ⟨rfl,(A.out _).trans (hb.mono (by omega)),.inr ⟨by decide,rfl,rfl,rfl⟩⟩
theorem each1c_op (pa po:Nat) (op:Int) (v0 v1:Value) (sh da:List Int) (w:World) (hl0:sh.length<=1048576) (hl1:da.length<=1048576) (h0:Rd w.heap.size w v0 sh) (h1:Rd w.heap.size w v1 da)
  (ca0:w.cell? ⟨pa,0,none⟩=some v0) (ca1:w.cell? ⟨pa,1,none⟩=some v1) (co:w.cell? ⟨po,0,none⟩=some (.int .i64 op)) (hpa:pa<w.heap.size) (hpo:po<w.heap.size) (hok:Pl.okB sh da=true) (hop:op<1\/5<=op) :
  Calls Tryz.prog 30 #[.pointer (some ⟨pa,0,none⟩),.pointer (some ⟨po,0,none⟩)] w (KPost w 9 [] []):=by
 have A:Hid (∀o,Below w.heap.size w (w.alloc o)):=fun o=>(Below.refl _ _).alloc (Nat.le_refl _) _
 have K:=hideP (valid_new' v0 v1 sh da w hl0 hl1 h0 h1)
 have HK:=hideP hok
 have O:=hideP (fun w=>oneOf_no op w hop)
 obtain ⟨a0,d0,e0⟩:=h0.form
 obtain ⟨a1,d1,e1⟩:=h1.form
 subst e0 e1
 clear h0 h1 hok hop
 have ne:¬pa=w.heap.size:=by omega
 go_enter Tryz.func30,Tryz.ntmps30
 go_wp2_with fail
 refine (K.out _ _).mono ?_
 rintro e w1 ⟨hb,⟨_,rfl⟩ | ⟨hq,_⟩⟩
 rotate_left 1
 ·rw [HK.out] at hq; cases hq
 have hb':=(A.out (.cells #[.slice none 0 0,.slice none 0 0] 25)).trans (hb.mono (by omega))
 have hs:=hb.size
 simp at hs
 have B1:=hideP hb'.drew
 have L0:∀w',Below w.heap.size w w'->w'.cell? ⟨po,0,none⟩=some (.int .i64 op):=fun w' h=>(h.cell (p:=⟨po,0,none⟩) hpo).trans co
 have L1:∀w',Below w.heap.size w w'->w'.cell? ⟨pa,0,none⟩=some (.slice a0 sh.length d0):=fun w' h=>(h.cell (p:=⟨pa,0,none⟩) hpa).trans ca0
 have L2:∀w',Below w.heap.size w w'->w'.cell? ⟨pa,1,none⟩=some (.slice a1 da.length d1):=fun w' h=>(h.cell (p:=⟨pa,1,none⟩) hpa).trans ca1
 clear hb hb' ca0 ca1 co
 go_wp2_with fail
 refine wp_region_held (S:=fun w'=>Below w.heap.size w w') (by kernel_rfl) ?_
 change wpAnyH _ _ _ _ _ _ _ _ (World.drew _)
 refine tz 0 (.int .i64 op) rfl B1.out (fun w' hS=>by have:=L0 w' hS; clear L0 L1 L2 hS; go_simp) ?_
 refine tz 2 (.agg #[.slice a0 sh.length d0,.slice a1 da.length d1]) rfl B1.out (fun w' hS=>by have:=L1 w' hS; have:=L2 w' hS; clear L0 L1 L2 hS; go_simp) ?_
 refine ry1 1 rfl (fun K hK=>?_)
 clear L0 L1 L2
 go_simp
 refine (O.out _).mono ?_
 rintro e w2 ⟨rfl,hb2⟩
 exact ⟨rfl,B1.out.trans (hb2.mono (by show _<=w1.heap.size; omega)),.inr ⟨by decide,rfl,rfl,rfl⟩⟩
theorem each1c_go (pa po:Nat) (op:Int) (v0 v1:Value) (sh da:List Int) (w:World) (hl0:sh.length<=1048576) (hl1:da.length<=1048576) (h0:Rd w.heap.size w v0 sh) (h1:Rd w.heap.size w v1 da)
  (ca0:w.cell? ⟨pa,0,none⟩=some v0) (ca1:w.cell? ⟨pa,1,none⟩=some v1) (co:w.cell? ⟨po,0,none⟩=some (.int .i64 op)) (hpa:pa<w.heap.size) (hpo:po<w.heap.size) (hok:Pl.okB sh da=true) (FV:Value) (c:Int) (sh' da':List Int)
  (hof:∀w',Calls Tryz.prog 33 #[.int .i64 op] w' fun e w''=>e=.returned FV/\Below w'.heap.size w' w'') (hk:∀w',Below w.heap.size w w'->Calls Tryz.prog 32 #[FV,.agg #[v0,v1]] w' (KPost w' c sh' da')) :
  Calls Tryz.prog 30 #[.pointer (some ⟨pa,0,none⟩),.pointer (some ⟨po,0,none⟩)] w (KPost w c sh' da'):=by
 have A:Hid (∀o,Below w.heap.size w (w.alloc o)):=fun o=>(Below.refl _ _).alloc (Nat.le_refl _) _
 have K:=hideP (valid_new' v0 v1 sh da w hl0 hl1 h0 h1)
 have HK:=hideP hok
 have O:=hideP hof
 have HKK:=hideP hk
 obtain ⟨a0,d0,e0⟩:=h0.form
 obtain ⟨a1,d1,e1⟩:=h1.form
 subst e0 e1
 clear h0 h1 hok hof hk
 have ne:¬pa=w.heap.size:=by omega
 go_enter Tryz.func30,Tryz.ntmps30
 go_wp2_with fail
 refine (K.out _ _).mono ?_
 rintro e w1 ⟨hb,⟨_,rfl⟩ | ⟨hq,_⟩⟩
 rotate_left 1
 ·rw [HK.out] at hq; cases hq
 have hb':=(A.out (.cells #[.slice none 0 0,.slice none 0 0] 25)).trans (hb.mono (by omega))
 have hs:=hb.size
 simp at hs
 have B1:=hideP hb'.drew
 have CR:Hid (w1.drew.cell? ⟨w.heap.size,0,none⟩=some (.slice none 0 0)/\w1.drew.cell? ⟨w.heap.size,1,none⟩=some (.slice none 0 0)/\∀o,w1.drew.frozen? ⟨w.heap.size,o,none⟩=false) :=
  ⟨(hb.cell (p:=⟨w.heap.size,0,none⟩) (by show w.heap.size<_; omega)).trans (by simp [go_sem]),(hb.cell (p:=⟨w.heap.size,1,none⟩) (by show w.heap.size<_; omega)).trans (by simp [go_sem]),fun o=>(hb.frozen (p:=⟨w.heap.size,o,none⟩) (by show w.heap.size<_; omega)).trans (by simp [go_sem])⟩
 have L0:∀w',Below w.heap.size w w'->w'.cell? ⟨po,0,none⟩=some (.int .i64 op):=fun w' h=>(h.cell (p:=⟨po,0,none⟩) hpo).trans co
 have L1:∀w',Below w.heap.size w w'->w'.cell? ⟨pa,0,none⟩=some (.slice a0 sh.length d0):=fun w' h=>(h.cell (p:=⟨pa,0,none⟩) hpa).trans ca0
 have L2:∀w',Below w.heap.size w w'->w'.cell? ⟨pa,1,none⟩=some (.slice a1 da.length d1):=fun w' h=>(h.cell (p:=⟨pa,1,none⟩) hpa).trans ca1
 clear hb hb' ca0 ca1 co
 go_wp2_with fail
 refine wp_region_held (S:=fun w'=>Below w.heap.size w w') (by kernel_rfl) ?_
 change wpAnyH _ _ _ _ _ _ _ _ (World.drew _)
 refine tz 0 (.int .i64 op) rfl B1.out (fun w' hS=>by have:=L0 w' hS; clear L0 L1 L2 hS; go_simp) ?_
 refine tz 2 (.agg #[.slice a0 sh.length d0,.slice a1 da.length d1]) rfl B1.out (fun w' hS=>by have:=L1 w' hS; have:=L2 w' hS; clear L0 L1 L2 hS; go_simp) ?_
 refine ry1 1 rfl (fun K hK=>?_)
 clear L0 L1 L2
 go_simp
 refine (O.out _).mono ?_
 rintro e w2 ⟨rfl,hb2⟩
 have B2:=hideP (B1.out.trans (hb2.mono (by show _<=w1.heap.size; omega)))
 have hs2:w.heap.size+1<=w2.heap.size:=by
  have:=hb2.size
  have e:w1.drew.heap.size=w1.heap.size:=rfl
  omega
 have C2:=hideP (And.intro ((hb2.cell (p:=⟨w.heap.size,0,none⟩) hs).trans CR.out.1) (And.intro ((hb2.cell (p:=⟨w.heap.size,1,none⟩) hs).trans CR.out.2.1) (fun o=>(hb2.frozen (p:=⟨w.heap.size,o,none⟩) hs).trans (CR.out.2.2 o))))
 clear hb2
 refine hK.out _ _ B2.out (fun _=>?_)
 clear hK
 refine ry1 3 rfl (fun K hK=>?_)
 go_simp
 refine (HKK.out w2 B2.out).mono ?_
 rintro e w3 ⟨hb3,⟨rfl,u0,u1,rfl,hres⟩ | ⟨hc,rfl,rfl,rfl⟩⟩
 rotate_left 1
 ·exact ⟨rfl,B2.out.trans (hb3.mono (by omega)),.inr ⟨hc,rfl,rfl,rfl⟩⟩
 have B3:=hideP (B2.out.trans (hb3.mono (by omega)))
 have R3:=hideP hres
 obtain ⟨q0,q1,f2⟩:=C2.out
 have r0:w3.cell? ⟨w.heap.size,0,none⟩=some (.slice none 0 0):=(hb3.cell (p:=⟨w.heap.size,0,none⟩) (by show w.heap.size<_; omega)).trans q0
 have r1:w3.cell? ⟨w.heap.size,1,none⟩=some (.slice none 0 0):=(hb3.cell (p:=⟨w.heap.size,1,none⟩) (by show w.heap.size<_; omega)).trans q1
 have f3:∀o,w3.frozen? ⟨w.heap.size,o,none⟩=false:=fun o=>(hb3.frozen (p:=⟨w.heap.size,o,none⟩) (by show w.heap.size<_; omega)).trans (f2 o)
 obtain ⟨x0,y0,e0⟩:=hres.1.form
 obtain ⟨x1,y1,e1⟩:=hres.2.1.form
 subst e0 e1
 clear hres hb3 q0 q1 f2
 refine hK.out _ _ B3.out (fun _=>?_)
 clear hK
 refine ry1 4 rfl (fun K hK=>?_)
 go_simp
 refine hK.out _ _ ((B3.out.setCell (by simp) _).setCell (by simp) _) (fun _=>?_)
 clear hK
 refine wpAnyH_done (by kernel_rfl) ?_ _
 go_wp2_with fail
 refine bodyPost_ret (v:=.agg #[.slice x0 sh'.length y0,.slice x1 da'.length y1]) (by simp [results,Tryz.results30,go_sem,r0,r1]) rfl ⟨(B3.out.setCell (by simp) _).setCell (by simp) _,.inl ⟨rfl,_,_,rfl,?_,?_,R3.out.2.2⟩⟩
 ·exact Own.base (Own.store (Own.store R3.out.1 (by omega) _) (by omega) _) (by omega)
 exact Own.base (Own.store (Own.store R3.out.2.1 (by omega) _) (by omega) _) (by omega)
namespace Pl
def each1C (op:Int) (sh da:List Int):Int:=if okB sh da=true/\1<=op/\op<5 then firstC (oneM op) da else 9
def each1S (op:Int) (sh da:List Int):List Int:=if each1C op sh da=0 then sh else []
def each1D (op:Int) (sh da:List Int):List Int:=if each1C op sh da=0 then da.map (fun x=>(oneM op x).1) else []
theorem ok_cell {sh da:List Int} (h:okB sh da=true) {x:Int} (hx:x∈da):-3000000000<=x/\x<=3000000000:=by
 simp only [okB,Bool.and_eq_true,List.all_eq_true] at h
 have:=h.2 x hx
 simpa [valB] using this
end Pl
theorem each1c_all (pa po:Nat) (op:Int) (v0 v1:Value) (sh da:List Int) (w:World) (hl0:sh.length<=1048576) (hl1:da.length<=1048576) (h0:Rd w.heap.size w v0 sh) (h1:Rd w.heap.size w v1 da)
  (ca0:w.cell? ⟨pa,0,none⟩=some v0) (ca1:w.cell? ⟨pa,1,none⟩=some v1) (co:w.cell? ⟨po,0,none⟩=some (.int .i64 op)) (hpa:pa<w.heap.size) (hpo:po<w.heap.size) :
  Calls Tryz.prog 30 #[.pointer (some ⟨pa,0,none⟩),.pointer (some ⟨po,0,none⟩)] w (KPost w (Pl.each1C op sh da) (Pl.each1S op sh da) (Pl.each1D op sh da)):=by
 unfold Pl.each1S Pl.each1D
 by_cases hok:Pl.okB sh da=true
 rotate_left 1
 ·have e:Pl.each1C op sh da=9:=by unfold Pl.each1C; rw [if_neg (fun h=>hok h.1)]
  rw [e]
  exact each1c_bad pa po v0 v1 sh da w hl0 hl1 h0 h1 ca0 ca1 hpa (by simpa using hok)
 by_cases hop:1<=op/\op<5
 rotate_left 1
 ·have e:Pl.each1C op sh da=9:=by unfold Pl.each1C; rw [if_neg (fun h=>hop h.2)]
  rw [e]
  exact each1c_op pa po op v0 v1 sh da w hl0 hl1 h0 h1 ca0 ca1 co hpa hpo hok (by omega)
 have e:Pl.each1C op sh da=Pl.firstC (Pl.oneM op) da:=by unfold Pl.each1C; rw [if_pos ⟨hok,hop⟩]
 rw [e]
 obtain ⟨k,rfl⟩:=Int.eq_ofNat_of_zero_le (show 0<=op by omega)
 have hk:k=1\/k=2\/k=3\/k=4:=by omega
 refine each1c_go pa po (k:Int) v0 v1 sh da w hl0 hl1 h0 h1 ca0 ca1 co hpa hpo hok (.func (.func (75+k)) #[] #[]) _ _ _ (fun w'=>oneOf_yes k w' (by omega) (by omega)) ?_
 intro w' hb
 refine each1_any (75+k) #[] (Pl.oneM k) v0 v1 sh da w' hl0 hl1 ((h0.keep hb).up hb.size) ((h1.keep hb).up hb.size) ?_ ?_
 ·intro args w''
  rcases hk with rfl | rfl | rfl | rfl
  ·exact callF86 args w''
  ·exact callF87 args w''
  ·exact callF88 args w''
  exact callF89 args w''
 intro x hx w'' _
 have hb:=Pl.ok_cell hok hx
 rcases hk with rfl | rfl | rfl | rfl
 ·exact cellNeg_any x w'' hb.1 hb.2
 ·exact cellAbs_any x w'' hb.1 hb.2
 ·exact cellSign_any x w''
 exact cellNot_any x w'' hb.1 hb.2
theorem each1_face (op:Int) (v0 v1:Value) (sh da:List Int) (w:World) (hl0:sh.length<=1048576) (hl1:da.length<=1048576) (h0:Rd w.heap.size w v0 sh) (h1:Rd w.heap.size w v1 da) :
  Calls Tryz.prog 6 #[.int .i64 op,.agg #[v0,v1]] w (FPost w (Pl.each1C op sh da) (Pl.each1S op sh da) (Pl.each1D op sh da)):=by
 have hmf:∀(fn:Fn) (first cap:Array Value) (w:World),(Instr.makeFunc fn first cap).run Tryz.prog w=.ok (.func fn first cap) w:=fun _ _ _ _=>rfl
 have K:=hideP (fun pa po w' (hb:Below w.heap.size w w')=>each1c_all pa po op v0 v1 sh da w' hl0 hl1 ((h0.keep hb).up hb.size) ((h1.keep hb).up hb.size))
 obtain ⟨a0,d0,e0⟩:=h0.form
 obtain ⟨a1,d1,e1⟩:=h1.form
 subst e0 e1
 clear h0 h1
 generalize Pl.each1C op sh da=c at *
 generalize Pl.each1S op sh da=sh' at *
 generalize Pl.each1D op sh da=da' at *
 go_enter Tryz.func6,Tryz.ntmps6
 go_wp2_with fail
 refine (answer_any 30 _ c sh' da' _ (callF43 _) ?_).mono ?_
 ·refine K.out (w.heap.size+1) w.heap.size _ ?_ ?_ ?_ ?_ ?_ ?_
  ·exact (((((Below.refl _ _).alloc (Nat.le_refl _) _).alloc (by simp) _).alloc (by simp; omega) _).alloc (by simp; omega) _).alloc (by simp; omega) _
  ·simp [go_sem]
  ·simp [go_sem]
  ·simp [go_sem]
  ·simp
  simp; omega
 rintro e w1 ⟨hb1,u0,u1,rfl,hres⟩
 have B0:Hid (Below w.heap.size w w1):=((((Below.refl _ _).alloc (Nat.le_refl _) _).alloc (by simp) _).alloc (by simp; omega) _).trans (hb1.mono (by simp; omega))
 have hs:=hb1.size
 simp at hs
 obtain ⟨hc,hf⟩:=bcell hb1
 have r0:w1.cell? ⟨w.heap.size+1+1,0,none⟩=some (.slice none 0 0):=by rw [hc (w.heap.size+1+1) 0 (by simp)]; simp [go_sem]
 have r1:w1.cell? ⟨w.heap.size+1+1,1,none⟩=some (.slice none 0 0):=by rw [hc (w.heap.size+1+1) 1 (by simp)]; simp [go_sem]
 have f3:∀o,w1.frozen? ⟨w.heap.size+1+1,o,none⟩=false:=fun o=>by rw [hf (w.heap.size+1+1) o (by simp)]; simp [go_sem]
 have R:Hid (Res (w.heap.size+1+1+1) w1 u0 u1 sh' da'):=by
  have:=hres
  show Res _ _ _ _ _ _
  simpa using this
 obtain ⟨x0,y0,e0⟩:=hres.1.form
 obtain ⟨x1,y1,e1⟩:=hres.2.1.form
 subst e0 e1
 clear hc hf hb1 hres K
 go_wp2_with fail
 refine bodyPost_ret (v:=.tuple #[.agg #[.slice x0 sh'.length y0,.slice x1 da'.length y1],.int .i64 c]) (by simp [results,Tryz.results6,go_sem,r0,r1]) rfl ⟨(B0.out.setCell (by simp; omega) _).setCell (by simp; omega) _,_,_,rfl,?_,?_,R.out.2.2⟩
 ·exact Own.base (Own.store (Own.store R.out.1 (by omega) _) (by omega) _) (by omega)
 exact Own.base (Own.store (Own.store R.out.2.1 (by omega) _) (by omega) _) (by omega)
theorem l2Bool_any (q:Bool) (w:World):Calls Tryz.prog 57 #[.bool q] w fun e w'=>e=.returned (.int .i64 (if q=true then 1 else 0))/\w'=w:=by
 cases q
 ·go_enter Tryz.func57,Tryz.ntmps57
  go_wp2
  go_ret
  exact ⟨rfl,rfl⟩
 go_enter Tryz.func57,Tryz.ntmps57
 go_wp2
 go_ret
 exact ⟨rfl,rfl⟩
theorem l2One_1 (x:Int) (w:World) (h0:-3000000000<=x) (h1:x<=3000000000):Calls Tryz.prog 28 #[.int .i64 1,.int .i64 x] w fun e w'=>e=.returned (.tuple #[.int .i64 (Pl.oneM 1 x).1,.int .i64 (Pl.oneM 1 x).2])/\w'=w:=by
 go_enter Tryz.func28,Tryz.ntmps28
 go_wp2
 go_ret2
 exact ⟨rfl,rfl⟩
theorem l2One_2 (x:Int) (w:World) (h0:-3000000000<=x) (h1:x<=3000000000):Calls Tryz.prog 28 #[.int .i64 2,.int .i64 x] w fun e w'=>e=.returned (.tuple #[.int .i64 (Pl.oneM 2 x).1,.int .i64 (Pl.oneM 2 x).2])/\w'=w:=by
 have e:(Pl.oneM 2 x)=(max x (-x),0):=rfl
 rw [e]
 by_cases h:x<0
 ·have e:max x (-x)=-x:=by omega
  simp only [e]
  go_enter Tryz.func28,Tryz.ntmps28
  go_wp2
  go_ret2
  exact ⟨rfl,rfl⟩
 have e:max x (-x)=x:=by omega
 simp only [e]
 go_enter Tryz.func28,Tryz.ntmps28
 go_wp2
 go_ret2
 exact ⟨rfl,rfl⟩
theorem l2One_3 (x:Int) (w:World) (h0:-3000000000<=x) (h1:x<=3000000000):Calls Tryz.prog 28 #[.int .i64 3,.int .i64 x] w fun e w'=>e=.returned (.tuple #[.int .i64 (Pl.oneM 3 x).1,.int .i64 (Pl.oneM 3 x).2])/\w'=w:=by
 by_cases h:x<0
 ·have g:¬0<x:=by omega
  have e:Pl.oneM 3 x=(-1,0):=by show Pl.signM x=_; unfold Pl.signM; rw [if_pos h]
  rw [e]
  go_enter Tryz.func28,Tryz.ntmps28
  go_wp2
  go_ret2
  exact ⟨rfl,rfl⟩
 by_cases g:0<x
 ·have e:Pl.oneM 3 x=(1,0):=by show Pl.signM x=_; unfold Pl.signM; rw [if_neg h,if_pos g]
  rw [e]
  go_enter Tryz.func28,Tryz.ntmps28
  go_wp2
  go_ret2
  exact ⟨rfl,rfl⟩
 have e:Pl.oneM 3 x=(0,0):=by show Pl.signM x=_; unfold Pl.signM; rw [if_neg h,if_neg g]
 rw [e]
 go_enter Tryz.func28,Tryz.ntmps28
 go_wp2
 go_ret2
 exact ⟨rfl,rfl⟩
theorem l2One_4 (x:Int) (w:World) (h0:-3000000000<=x) (h1:x<=3000000000):Calls Tryz.prog 28 #[.int .i64 4,.int .i64 x] w fun e w'=>e=.returned (.tuple #[.int .i64 (Pl.oneM 4 x).1,.int .i64 (Pl.oneM 4 x).2])/\w'=w:=by
 by_cases h:x=0
 ·subst h
  go_enter Tryz.func28,Tryz.ntmps28
  go_wp2
  go_ret2
  exact ⟨rfl,rfl⟩
 by_cases g:x=1
 ·subst g
  go_enter Tryz.func28,Tryz.ntmps28
  go_wp2
  go_ret2
  exact ⟨rfl,rfl⟩
 have e:Pl.oneM 4 x=(0,1):=by show Pl.notM x=_; unfold Pl.notM; rw [if_neg (by omega)]
 rw [e]
 have e0:(x != 0)=true:=by rw [bne_iff_ne]; exact h
 have e1:(x != 1)=true:=by rw [bne_iff_ne]; exact g
 clear h g e
 go_enter Tryz.func28,Tryz.ntmps28
 go_wp2
 go_ret2
 exact ⟨rfl,rfl⟩
theorem l2One_any (op x:Int) (w:World) (h:1<=op) (h':op<5) (h0:-3000000000<=x) (h1:x<=3000000000):Calls Tryz.prog 28 #[.int .i64 op,.int .i64 x] w fun e w'=>e=.returned (.tuple #[.int .i64 (Pl.oneM op x).1,.int .i64 (Pl.oneM op x).2])/\w'=w:=by
 have hk:op=1\/op=2\/op=3\/op=4:=by omega
 rcases hk with rfl | rfl | rfl | rfl
 ·exact l2One_1 x w h0 h1
 ·exact l2One_2 x w h0 h1
 ·exact l2One_3 x w h0 h1
 exact l2One_4 x w h0 h1
theorem owns_empty (w:World) (base:Nat) (hb:base<=w.heap.size):(w.alloc (.cells #[] 3)).ownsRow base 3 1 (.slice (some ⟨w.heap.size,0,none⟩) 0 0) 0 (([]:List Int).map (Value.int .i64)) :=
 World.ownsRow_lit w #[] 0 hb (by unfold maxLen; omega) rfl
theorem l2Copy_any (u:Value) (xs:List Int) (w:World) (hl:xs.length<=1048576) (h0:Rd w.heap.size w u xs) :
  Calls Tryz.prog 27 #[u] w fun e w'=>∃v,e=.returned v/\w'.ownsRow w.heap.size 3 1 v xs.length (xs.map (Value.int .i64))/\Below w.heap.size w w':=by
 have H:=hideP h0
 obtain ⟨a0,d0,e0⟩:=h0.form
 subst e0
 clear h0
 go_enter Tryz.func27,Tryz.ntmps27
 have A:Hid (Below w.heap.size w (w.alloc (.cells #[] 3))):=(Below.refl _ _).alloc (Nat.le_refl _) _
 have RD:=hideP (H.out.keep A.out)
 have OE:=hideP (owns_empty w w.heap.size (Nat.le_refl _))
 go_wp2_with (at_builtin; refine wpList_append_rd _ rfl _ _ rfl _ _ rfl rfl 0 [] xs OE.out RD.out (by omega) (by simp) ?_)
 intro v' w' ho hb
 have HO:Hid (w'.ownsRow w.heap.size 3 1 v' xs.length (xs.map (Value.int .i64))):=by
  first | exact ho | (have:=ho; rw [Nat.zero_add,List.nil_append] at this; exact this)
 have HB:=hideP (A.out.trans hb)
 clear ho hb
 go_wp2_with fail
 go_ret
 exact ⟨_,rfl,HO.out,HB.out⟩
theorem spec1_op (op:Int) (v0 v1:Value) (sh da:List Int) (w:World) (h0:Rd w.heap.size w v0 sh) (h1:Rd w.heap.size w v1 da) (hop:op<1\/5<=op) :
  Calls Tryz.prog 5 #[.int .i64 op,.agg #[v0,v1]] w (FPost w 9 [] []):=by
 obtain ⟨a0,d0,e0⟩:=h0.form
 obtain ⟨a1,d1,e1⟩:=h1.form
 subst e0 e1
 clear h0 h1
 have B:Hid (∀o o',Below w.heap.size w ((w.alloc o).alloc o')):=fun o o'=>((Below.refl _ _).alloc (Nat.le_refl _) _).alloc (by simp) _
 rcases hop with h | h
 ·go_enter Tryz.func5,Tryz.ntmps5
  go_wp2_with fail
  refine bodyPost_ret (v:=.tuple #[.agg #[.slice none 0 0,.slice none 0 0],.int .i64 9]) (by simp [results,Tryz.results5,go_sem]) rfl ⟨B.out _ _,_,_,rfl,Own.nil _ _,Own.nil _ _,.inl rfl⟩
 have g:¬op<1:=by omega
 have h':4<op:=by omega
 go_enter Tryz.func5,Tryz.ntmps5
 go_wp2_with fail
 refine bodyPost_ret (v:=.tuple #[.agg #[.slice none 0 0,.slice none 0 0],.int .i64 9]) (by simp [results,Tryz.results5,go_sem]) rfl ⟨B.out _ _,_,_,rfl,Own.nil _ _,Own.nil _ _,.inl rfl⟩
theorem spec1_bad (op:Int) (v0 v1:Value) (sh da:List Int) (w:World) (hl0:sh.length<=1048576) (hl1:da.length<=1048576) (h0:Rd w.heap.size w v0 sh) (h1:Rd w.heap.size w v1 da) (hop:1<=op) (hop':op<5) (hok:Pl.okB sh da=false) :
  Calls Tryz.prog 5 #[.int .i64 op,.agg #[v0,v1]] w (FPost w 9 [] []):=by
 have B:Hid (∀o o',Below w.heap.size w ((w.alloc o).alloc o')):=fun o o'=>((Below.refl _ _).alloc (Nat.le_refl _) _).alloc (by simp) _
 have K:Hid (∀o o',Calls Tryz.prog 26 #[.agg #[v0,v1]] ((w.alloc o).alloc o') fun e w'=>e=.returned (.bool false)/\Below ((w.alloc o).alloc o').heap.size ((w.alloc o).alloc o') w'):=fun o o'=>by
  have:=specOk_any v0 v1 sh da ((w.alloc o).alloc o') hl0 hl1 ((h0.keep (B.out _ _)).up (by simp; omega)) ((h1.keep (B.out _ _)).up (by simp; omega))
  rw [hok] at this; exact this
 obtain ⟨a0,d0,e0⟩:=h0.form
 obtain ⟨a1,d1,e1⟩:=h1.form
 subst e0 e1
 clear h0 h1 hok
 have g1:¬op<1:=by omega
 have g2:¬4<op:=by omega
 go_enter Tryz.func5,Tryz.ntmps5
 go_wp2_with fail
 refine (K.out _ _).mono ?_
 rintro e w1 ⟨rfl,hb1⟩
 have B1:=hideP ((B.out _ _).trans (hb1.mono (by simp; omega)))
 have hs:=hb1.size
 simp at hs
 obtain ⟨hc,hf⟩:=bcell hb1
 have r0:w1.cell? ⟨w.heap.size+1,0,none⟩=some (.slice none 0 0):=by rw [hc (w.heap.size+1) 0 (by simp)]; simp [go_sem]
 have r1:w1.cell? ⟨w.heap.size+1,1,none⟩=some (.slice none 0 0):=by rw [hc (w.heap.size+1) 1 (by simp)]; simp [go_sem]
 have f3:∀o,w1.frozen? ⟨w.heap.size+1,o,none⟩=false:=fun o=>by rw [hf (w.heap.size+1) o (by simp)]; simp [go_sem]
 clear hc hf hb1
 go_wp2_with fail
 refine bodyPost_ret (v:=.tuple #[.agg #[.slice none 0 0,.slice none 0 0],.int .i64 9]) (by simp [results,Tryz.results5,go_sem,r0,r1]) rfl ⟨(B1.out.setCell (by simp) _).setCell (by simp) _,_,_,rfl,Own.nil _ _,Own.nil _ _,.inl rfl⟩
end Go.Proofs.YtacapaiadggemaaGreat
