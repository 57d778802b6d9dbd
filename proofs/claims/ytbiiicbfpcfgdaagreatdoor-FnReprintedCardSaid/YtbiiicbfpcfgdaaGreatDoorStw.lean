import Derived.Test.YtbiiicbfpcfgdaaGreatDoorBdw
import Derived.Test.YtbiiicbfpcfgdaaGreatDoorStp
namespace Go.Proofs.YtbiiicbfpcfgdaaGreatDoor
open Go.RowKit
set_option maxRecDepth 100000
set_option maxHeartbeats 16000000
set_option linter.unusedVariables false
structure Sz (p4 p5:Nat) (W:World) (k:Int) (nm:ByteArray) (ac:Option Addr) (nc cc:Nat) (ag:Option Addr) (ng cg:Nat) (fr ne:Int) (ok lo:Bool):Prop where
 d0:W.cell? ⟨p4,0,none⟩=some (.int .i64 k)
 d1:W.cell? ⟨p4,1,none⟩=some (.string nm)
 d2:W.cell? ⟨p4,2,none⟩=some (.slice ac nc cc)
 d3:W.cell? ⟨p4,3,none⟩=some (.slice ag ng cg)
 e0:W.cell? ⟨p5,0,none⟩=some (.slice ac nc cc)
 e1:W.cell? ⟨p5,1,none⟩=some (.int .i64 fr)
 e2:W.cell? ⟨p5,2,none⟩=some (.bool ok)
 e3:W.cell? ⟨p5,3,none⟩=some (.int .i64 ne)
 e4:W.cell? ⟨p5,4,none⟩=some (.bool lo)
 l4:p4<W.heap.size
 l5:p5<W.heap.size
theorem Sz.same {p4 p5:Nat}{W W':World}{k:Int}{nm:ByteArray}{ac:Option Addr}{nc cc:Nat}{ag:Option Addr}{ng cg:Nat}{fr ne:Int}{ok lo:Bool}(h:Sz p4 p5 W k nm ac nc cc ag ng cg fr ne ok lo) (h4:W'.heap[p4]? = W.heap[p4]?) (h5:W'.heap[p5]? = W.heap[p5]?) (hs:W.heap.size<=W'.heap.size):Sz p4 p5 W' k nm ac nc cc ag ng cg fr ne ok lo:=by
 have g4 (j:Nat):W'.cell? ⟨p4,j,none⟩=W.cell? ⟨p4,j,none⟩:=World.cell?_of_block h4
 have g5 (j:Nat):W'.cell? ⟨p5,j,none⟩=W.cell? ⟨p5,j,none⟩:=World.cell?_of_block h5
 exact⟨(g4 0).trans h.d0,(g4 1).trans h.d1,(g4 2).trans h.d2,(g4 3).trans h.d3,(g5 0).trans h.e0,(g5 1).trans h.e1,(g5 2).trans h.e2,(g5 3).trans h.e3,(g5 4).trans h.e4,Nat.lt_of_lt_of_le h.l4 hs,Nat.lt_of_lt_of_le h.l5 hs⟩
theorem ReadR.of {B p:Nat}{w:World}{ac:Option Addr}{nc cc:Nat}{ag:Option Addr}{cg:Nat}{fr ne:Int}{ok lo fi:Bool}{r:Option Pl.E}{mk:Pl.E->Pl.S}{k:Int}{nm:ByteArray}(hm:∀e,(mk e).tv=⟨k,nm.data.toList,e.code,[]⟩/\(mk e).fine=e.fine) (h:CodeR B w (.agg #[.slice ac nc cc,.int .i64 fr,.bool ok,.int .i64 ne,.bool lo]) (r.map ofE)) (hG:OwG w (.slice ag 0 cg) [] [p]) (hB:p<B) (hpl:p<w.heap.size) (hfi:fi=(decide (ne<=40) && !lo)) {B':Nat}(hB':B'<=p):ReadR B' w (.agg #[.int .i64 k,.string nm,.slice ac nc cc,.slice ag 0 cg,.bool ok,.bool fi]) (r.map mk):=by
 cases r with
 |none =>
  obtain⟨_,_,_,_,_,_,e⟩:=h
  cases e
  exact⟨_,_,_,_,_,_,_,_,_,rfl⟩
 |some x =>
  obtain⟨a6,c6,F,e,h1,h2⟩:=h
  cases e
  obtain⟨t1,t2⟩:=hm x
  refine⟨ac,_,cc,ag,0,cg,F,[p],?_,by rw[t1];exact h1,by rw[t1];exact hG,fun b hb=>⟨by have:=(h2 b hb).1;omega,(h2 b hb).2⟩,fun b hb=>by simp at hb;subst hb;exact⟨hB',hpl⟩,fun b hb hm2=>by simp at hm2;subst hm2;have:=(h2 _ hb).1;omega⟩
  rw[t1,t2,hfi,fine_int]
  rfl
theorem tStw4 {P:Prop}(h:P:=by
 have hlt:w.heap.size+1+1<w3.heap.size:=by omega
 exact⟨by simp[go_sem,d0,hlt],by simp[go_sem,d1,hlt],by simp[go_sem,d2,hlt],by simp[go_sem,d3,hlt],by simp[go_sem],by simp[go_sem],by simp[go_sem],by simp[go_sem],by simp[go_sem],by simp;omega,by simp⟩
 ):P:=h
theorem tStw1 {P:Prop}(h:P:=by
 have BX:Hid (∀o1 o2 o3,Below w.heap.size w (((w.alloc o1).alloc o2).alloc o3)):=fun o1 o2 o3=>(((Below.refl _ _).alloc (Nat.le_refl _) _).alloc sI _).alloc (by simp <;> omega) _
 have BY:Hid (∀o1,Below w.heap.size w (w.alloc o1)):=fun o1=>(Below.refl _ _).alloc (Nat.le_refl _) _
 have hm:∀e,(Pl.S.val e).tv=⟨1,((⟨#[]⟩:ByteArray)).data.toList,e.code,[]⟩/\(Pl.S.val e).fine=e.fine:=fun e=>⟨rfl,rfl⟩
 go_enter Tryz.func14,Tryz.ntmps14
 go_wp2_with (first | (go_at_call 31;with_reducible refine(KA.out _ (BY.out _) oM oM).mono ?_;rintro e' w2 ⟨rfl,rfl⟩) | (go_at_call 31;with_reducible refine(KA.out _ (BX.out _ _ _) oM oM).mono ?_;rintro e' w2 ⟨rfl,rfl⟩))
 refine(KX.out _ (BX.out _ _ _)).mono ?_
 rintro e' w3 ⟨v,rfl,hb3,hcr⟩
 obtain⟨a5,n5,c5,fr5,ok5,ne5,lo5,rfl⟩:=hcr.form
 have z3:=hb3.size
 simp at z3
 have R3:Rx w w3:=(R1.keep (((Below.refl _ _).alloc (Nat.le_refl _) _).alloc sI _)).keep hb3
 have d0:=bcell hb3 (b:=w.heap.size+1+1) (j:=0) sI (by simp[go_sem];rfl)
 have d1:=bcell hb3 (b:=w.heap.size+1+1) (j:=1) sI (by simp[go_sem];rfl)
 have d2:=bcell hb3 (b:=w.heap.size+1+1) (j:=2) sI (by simp[go_sem];rfl)
 have d3:=bcell hb3 (b:=w.heap.size+1+1) (j:=3) sI (by simp[go_sem];rfl)
 have df:∀j,w3.frozen? ⟨w.heap.size+1+1,j,none⟩=false:=fun j=>bfroz hb3 sI (by simp[go_sem])
 have hG:OwG w3 (.slice (some ⟨w.heap.size+1,0,none⟩) 0 0) [] [w.heap.size+1]:=by
  have h0:=Own.emp (et:=57) (z:=2) (Q:=Qg) (w.alloc (.cells #[.int .i64 0,.string ⟨#[]⟩,.slice none 0 0,.slice none 0 0,.bool false,.bool false] 45)) (w.heap.size+1) sI
  have hiz:Inb 0 ((w.alloc (.cells #[.int .i64 0,.string ⟨#[]⟩,.slice none 0 0,.slice none 0 0,.bool false,.bool false] 45)).alloc (.cells #[] 57)) [w.heap.size+1]:=fun x hx=>by simp at hx ⊢;omega
  exact(h0.below (B:=0) (C:=w.heap.size+2) Qg.lives hiz ((Below.refl _ _).alloc sI (.cells #[.int .i64 1,.string (⟨#[]⟩:ByteArray),.slice none 0 0,.slice (some ⟨w.heap.size+1,0,none⟩) 0 0] 43)) sI).below (B:=0) Qg.lives (hiz.up (Nat.le_refl _) sI) hb3 (Nat.le_refl _)
 have CR:=zH (hcr.low (B':=w.heap.size+3) sI)
 have HG:=zH hG
 clear hb3 hcr hG
 have hlt4:w.heap.size+1+1<w3.heap.size:=by omega
 have hlt5:¬w.heap.size+1+1=w3.heap.size:=by omega
 have K29:=zH (fun W=>l3Fine_any (.slice a5 n5 c5) fr5 ne5 ok5 lo5 W ⟨_,_,_,rfl⟩)
 go_wp2_with fail
 have G0:Hid (w3.grownBy ((w3.setCell ⟨w.heap.size+1+1,2,none⟩ (.slice a5 n5 c5)).alloc (.cells #[.slice a5 n5 c5,.int .i64 fr5,.bool ok5,.int .i64 ne5,.bool lo5] 75)).drew (some (w.heap.size+1+1))):=grown_then (grown_alloc (grown_one _ 2 _ (World.grownBy.refl w3 _)) _) ((Below.refl _ _).drew (B:=w3.heap.size)) (Nat.le_refl _)
 have S0:Hid (Sz (w.heap.size+1+1) w3.heap.size ((w3.setCell ⟨w.heap.size+1+1,2,none⟩ (.slice a5 n5 c5)).alloc (.cells #[.slice a5 n5 c5,.int .i64 fr5,.bool ok5,.int .i64 ne5,.bool lo5] 75)).drew 1 (⟨#[]⟩:ByteArray) a5 n5 c5 (some ⟨w.heap.size+1,0,none⟩) 0 0 fr5 ne5 ok5 lo5):=by
  exact tStw4
 refine wp_region_held (S:=fun W=>Sz (w.heap.size+1+1) w3.heap.size W 1 (⟨#[]⟩:ByteArray) a5 n5 c5 (some ⟨w.heap.size+1,0,none⟩) 0 0 fr5 ne5 ok5 lo5) kR ?_
 change wpAnyH _ _ _ _ _ _ _ _ (World.drew _)
 generalize ((w3.setCell ⟨w.heap.size+1+1,2,none⟩ (.slice a5 n5 c5)).alloc (.cells #[.slice a5 n5 c5,.int .i64 fr5,.bool ok5,.int .i64 ne5,.bool lo5] 75)).drew=W0 at G0 S0 ⊢
 refine tz 0 (.agg #[.int .i64 1,.string (⟨#[]⟩:ByteArray),.slice a5 n5 c5,.slice (some ⟨w.heap.size+1,0,none⟩) 0 0]) rfl S0.out (fun W hW=>exec_load37 (.tmp 4) (w.heap.size+1+1) 1 (⟨#[]⟩:ByteArray) a5 n5 c5 _ 0 0 W rfl kR hW.d0 hW.d1 hW.d2 hW.d3) ?_
 refine tz 1 (.pointer (some ⟨w3.heap.size,2,none⟩)) rfl S0.out (fun W hW=>exec_f63_2 (.tmp 5) w3.heap.size rfl kR W) ?_
 refine tz 2 (.bool ok5) rfl S0.out (fun W hW=>exec_load4 (.tmp 73) w3.heap.size 2 ok5 W rfl kR hW.e2) ?_
 refine tz 3 (.agg #[.slice a5 n5 c5,.int .i64 fr5,.bool ok5,.int .i64 ne5,.bool lo5]) rfl S0.out (fun W hW=>exec_load63 (.tmp 5) w3.heap.size a5 n5 c5 fr5 ne5 ok5 lo5 W rfl kR hW.e0 hW.e1 hW.e2 hW.e3 hW.e4) ?_
 refine step_callq (i:=4) kR rfl rfl 34 _ (exec_call1 34 enter29 (.tmp 75) (.agg #[.slice a5 n5 c5,.int .i64 fr5,.bool ok5,.int .i64 ne5,.bool lo5]) _ rfl kR W0) ?_
 refine(K29.out _).mono ?_
 rintro e' w4 ⟨rfl,hb4⟩
 have S4:=S0.out.same (hb4.block _ S0.out.l4) (hb4.block _ S0.out.l5) hb4.size
 refine⟨_,rfl,S4,?_⟩
 have G4:w3.grownBy w4 (some (w.heap.size+1+1)):=grown_then G0.out hb4 G0.out.size
 have R4:=R3.far G4 oM
 have C4:=CR.out.far G4 oM
 have O4:OwG w4 (.slice (some ⟨w.heap.size+1,0,none⟩) 0 0) [] [w.heap.size+1]:=HG.out.grown (B:=0) Qg.lives (fun x hx=>by simp at hx;subst hx;omega) G4 (fun x hx hm=>by cases hx;simp at hm)
 have hs4:=G4.size
 generalize hfa:(decide (ne5<=40) && !lo5)=fa at *
 refine step_valq (i:=5) kR rfl rfl _ (exec_build39 (.tmp 72) (.tmp 74) (.tmp 76) 1 (⟨#[]⟩:ByteArray) a5 n5 c5 (some ⟨w.heap.size+1,0,none⟩) 0 0 ok5 fa rfl kR kR kR w4) S4 ?_
 refine step_skip (i:=6) kR rfl rfl (exec_store39 (.tmp 2) (.tmp 77) w.heap.size 1 (⟨#[]⟩:ByteArray) a5 n5 c5 (some ⟨w.heap.size+1,0,none⟩) 0 0 ok5 fa _ _ _ _ _ _ w4 rfl kR kR R4.r0 R4.r1 R4.r2 R4.r3 R4.r4 R4.r5 R4.rf) (S4.same ((grown_box6 w4 w.heap.size _ _ _ _ _ _).block _ (by have:=S4.l4;omega) (by simp;omega)) ((grown_box6 w4 w.heap.size _ _ _ _ _ _).block _ (by have:=S4.l5;omega) (by simp;omega)) (grown_box6 w4 w.heap.size _ _ _ _ _ _).size) ?_
 refine wpAnyH_done kR ?_ _
 obtain⟨bb,lt,r0,r1,r2,r3,r4,r5,rf⟩:=R4
 clear S4 S0 G0
 go_wp2_with fail
 refine bodyPost_ret (v:=.agg #[.int .i64 1,.string (⟨#[]⟩:ByteArray),.slice a5 n5 c5,.slice (some ⟨w.heap.size+1,0,none⟩) 0 0,.bool ok5,.bool fa]) (by simp[results,Tryz.results14,go_sem,r0,r1,r2,r3,r4,r5]) rfl ⟨_,rfl,below_far bb (grown_box6 _ _ _ _ _ _ _ _) oM (Nat.le_refl _),?_⟩
 have hgb:=grown_box6 w4 w.heap.size (.int .i64 1) (.string (⟨#[]⟩:ByteArray)) (.slice a5 n5 c5) (.slice (some ⟨w.heap.size+1,0,none⟩) 0 0) (.bool ok5) (.bool fa)
 rw[HR]
 exact((ReadR.of hm C4 O4 oM oM hfa.symm (B':=w.heap.size+1) (Nat.le_refl _)).far hgb oM).low oM
 ):P:=h
theorem tStw2 {P:Prop}(h:P:=by
 rintro e' w3 ⟨v,rfl,hb3,hcr⟩
 obtain⟨a5,n5,c5,fr5,ok5,ne5,lo5,rfl⟩:=hcr.form
 have z3:=hb3.size
 simp at z3
 have R3:Rx w w3:=(R1.keep (((Below.refl _ _).alloc (Nat.le_refl _) _).alloc sI _)).keep hb3
 have d0:=bcell hb3 (b:=w.heap.size+1+1) (j:=0) sI (by simp[go_sem];rfl)
 have d1:=bcell hb3 (b:=w.heap.size+1+1) (j:=1) sI (by simp[go_sem];rfl)
 have d2:=bcell hb3 (b:=w.heap.size+1+1) (j:=2) sI (by simp[go_sem];rfl)
 have d3:=bcell hb3 (b:=w.heap.size+1+1) (j:=3) sI (by simp[go_sem];rfl)
 have df:∀j,w3.frozen? ⟨w.heap.size+1+1,j,none⟩=false:=fun j=>bfroz hb3 sI (by simp[go_sem])
 have hG:OwG w3 (.slice (some ⟨w.heap.size+1,0,none⟩) 0 0) [] [w.heap.size+1]:=by
  have h0:=Own.emp (et:=57) (z:=2) (Q:=Qg) (w.alloc (.cells #[.int .i64 0,.string ⟨#[]⟩,.slice none 0 0,.slice none 0 0,.bool false,.bool false] 45)) (w.heap.size+1) sI
  have hiz:Inb 0 ((w.alloc (.cells #[.int .i64 0,.string ⟨#[]⟩,.slice none 0 0,.slice none 0 0,.bool false,.bool false] 45)).alloc (.cells #[] 57)) [w.heap.size+1]:=fun x hx=>by simp at hx ⊢;omega
  exact(h0.below (B:=0) (C:=w.heap.size+2) Qg.lives hiz ((Below.refl _ _).alloc sI (.cells #[.int .i64 2,.string t.tx,.slice none 0 0,.slice (some ⟨w.heap.size+1,0,none⟩) 0 0] 43)) sI).below (B:=0) Qg.lives (hiz.up (Nat.le_refl _) sI) hb3 (Nat.le_refl _)
 have CR:=zH (hcr.low (B':=w.heap.size+3) sI)
 have HG:=zH hG
 clear hb3 hcr hG
 have hlt4:w.heap.size+1+1<w3.heap.size:=by omega
 have hlt5:¬w.heap.size+1+1=w3.heap.size:=by omega
 have K29:=zH (fun W=>l3Fine_any (.slice a5 n5 c5) fr5 ne5 ok5 lo5 W ⟨_,_,_,rfl⟩)
 go_wp2_with fail
 have G0:Hid (w3.grownBy ((w3.setCell ⟨w.heap.size+1+1,2,none⟩ (.slice a5 n5 c5)).alloc (.cells #[.slice a5 n5 c5,.int .i64 fr5,.bool ok5,.int .i64 ne5,.bool lo5] 75)).drew (some (w.heap.size+1+1))):=grown_then (grown_alloc (grown_one _ 2 _ (World.grownBy.refl w3 _)) _) ((Below.refl _ _).drew (B:=w3.heap.size)) (Nat.le_refl _)
 have S0:Hid (Sz (w.heap.size+1+1) w3.heap.size ((w3.setCell ⟨w.heap.size+1+1,2,none⟩ (.slice a5 n5 c5)).alloc (.cells #[.slice a5 n5 c5,.int .i64 fr5,.bool ok5,.int .i64 ne5,.bool lo5] 75)).drew 2 t.tx a5 n5 c5 (some ⟨w.heap.size+1,0,none⟩) 0 0 fr5 ne5 ok5 lo5):=by
  exact tStw4
 refine wp_region_held (S:=fun W=>Sz (w.heap.size+1+1) w3.heap.size W 2 t.tx a5 n5 c5 (some ⟨w.heap.size+1,0,none⟩) 0 0 fr5 ne5 ok5 lo5) kR ?_
 change wpAnyH _ _ _ _ _ _ _ _ (World.drew _)
 generalize ((w3.setCell ⟨w.heap.size+1+1,2,none⟩ (.slice a5 n5 c5)).alloc (.cells #[.slice a5 n5 c5,.int .i64 fr5,.bool ok5,.int .i64 ne5,.bool lo5] 75)).drew=W0 at G0 S0 ⊢
 refine tz 0 (.agg #[.int .i64 2,.string t.tx,.slice a5 n5 c5,.slice (some ⟨w.heap.size+1,0,none⟩) 0 0]) rfl S0.out (fun W hW=>exec_load37 (.tmp 4) (w.heap.size+1+1) 2 t.tx a5 n5 c5 _ 0 0 W rfl kR hW.d0 hW.d1 hW.d2 hW.d3) ?_
 refine tz 1 (.pointer (some ⟨w3.heap.size,2,none⟩)) rfl S0.out (fun W hW=>exec_f63_2 (.tmp 5) w3.heap.size rfl kR W) ?_
 refine tz 2 (.bool ok5) rfl S0.out (fun W hW=>exec_load4 (.tmp 73) w3.heap.size 2 ok5 W rfl kR hW.e2) ?_
 refine tz 3 (.agg #[.slice a5 n5 c5,.int .i64 fr5,.bool ok5,.int .i64 ne5,.bool lo5]) rfl S0.out (fun W hW=>exec_load63 (.tmp 5) w3.heap.size a5 n5 c5 fr5 ne5 ok5 lo5 W rfl kR hW.e0 hW.e1 hW.e2 hW.e3 hW.e4) ?_
 refine step_callq (i:=4) kR rfl rfl 34 _ (exec_call1 34 enter29 (.tmp 75) (.agg #[.slice a5 n5 c5,.int .i64 fr5,.bool ok5,.int .i64 ne5,.bool lo5]) _ rfl kR W0) ?_
 refine(K29.out _).mono ?_
 rintro e' w4 ⟨rfl,hb4⟩
 have S4:=S0.out.same (hb4.block _ S0.out.l4) (hb4.block _ S0.out.l5) hb4.size
 refine⟨_,rfl,S4,?_⟩
 have G4:w3.grownBy w4 (some (w.heap.size+1+1)):=grown_then G0.out hb4 G0.out.size
 have R4:=R3.far G4 oM
 have C4:=CR.out.far G4 oM
 have O4:OwG w4 (.slice (some ⟨w.heap.size+1,0,none⟩) 0 0) [] [w.heap.size+1]:=HG.out.grown (B:=0) Qg.lives (fun x hx=>by simp at hx;subst hx;omega) G4 (fun x hx hm=>by cases hx;simp at hm)
 have hs4:=G4.size
 generalize hfa:(decide (ne5<=40) && !lo5)=fa at *
 refine step_valq (i:=5) kR rfl rfl _ (exec_build39 (.tmp 72) (.tmp 74) (.tmp 76) 2 t.tx a5 n5 c5 (some ⟨w.heap.size+1,0,none⟩) 0 0 ok5 fa rfl kR kR kR w4) S4 ?_
 refine step_skip (i:=6) kR rfl rfl (exec_store39 (.tmp 2) (.tmp 77) w.heap.size 2 t.tx a5 n5 c5 (some ⟨w.heap.size+1,0,none⟩) 0 0 ok5 fa _ _ _ _ _ _ w4 rfl kR kR R4.r0 R4.r1 R4.r2 R4.r3 R4.r4 R4.r5 R4.rf) (S4.same ((grown_box6 w4 w.heap.size _ _ _ _ _ _).block _ (by have:=S4.l4;omega) (by simp;omega)) ((grown_box6 w4 w.heap.size _ _ _ _ _ _).block _ (by have:=S4.l5;omega) (by simp;omega)) (grown_box6 w4 w.heap.size _ _ _ _ _ _).size) ?_
 refine wpAnyH_done kR ?_ _
 obtain⟨bb,lt,r0,r1,r2,r3,r4,r5,rf⟩:=R4
 clear S4 S0 G0
 go_wp2_with fail
 refine bodyPost_ret (v:=.agg #[.int .i64 2,.string t.tx,.slice a5 n5 c5,.slice (some ⟨w.heap.size+1,0,none⟩) 0 0,.bool ok5,.bool fa]) (by simp[results,Tryz.results14,go_sem,r0,r1,r2,r3,r4,r5]) rfl ⟨_,rfl,below_far bb (grown_box6 _ _ _ _ _ _ _ _) oM (Nat.le_refl _),?_⟩
 have hgb:=grown_box6 w4 w.heap.size (.int .i64 2) (.string t.tx) (.slice a5 n5 c5) (.slice (some ⟨w.heap.size+1,0,none⟩) 0 0) (.bool ok5) (.bool fa)
 rw[HR]
 exact((ReadR.of hm C4 O4 oM oM hfa.symm (B':=w.heap.size+1) (Nat.le_refl _)).far hgb oM).low oM
 ):P:=h
theorem tStw3 {P:Prop}(h:P:=by
 clear HR
 go_enter Tryz.func14,Tryz.ntmps14
 go_wp2_with (first | (go_at_call 31;with_reducible refine(KA.out _ (BY.out _) oM oM).mono ?_;rintro e' w2 ⟨rfl,rfl⟩) | (go_at_call 31;with_reducible refine(KL.out _ (BY.out _) oM oM).mono ?_;rintro e' w2 ⟨rfl,rfl⟩) | (go_at_call 31;with_reducible refine(KR.out _ (BY.out _) oM oM).mono ?_;rintro e' w2 ⟨rfl,rfl⟩))
 refine bodyPost_ret (v:=.agg #[.int .i64 0,.string ⟨#[]⟩,.slice none 0 0,.slice none 0 0,.bool false,.bool false]) (by simp[results,Tryz.results14,go_sem]) rfl ⟨_,rfl,BY.out _,by rw[HRN.out];exact ReadR.no _ _⟩
 ):P:=h
theorem l3Stmt_of (n:Nat) (H:HE n) (l:List Pl.Tok) (b off cap:Nat) (w:World) (hl:l.length<=1048576) (hl0:0<l.length) (hcap:l.length<=cap) (hcp:cap<=9223372036854775807) (hn:2 * l.length+1<=n) (hk:∀t∈l,Pl.tOk t) (hR:RdK w.heap.size w (some ⟨b,off,none⟩) l) :
  Calls Tryz.prog 14 #[.slice (some ⟨b,off,none⟩) l.length cap] w fun e w'=>∃v,e=.returned v/\Below w.heap.size w w'/\ReadR w.heap.size w' v (Pl.rstmt n (l.map Pl.tkT)):=by
 have hk':∀t∈l,Pl.kOk t.k:=fun t ht=>(hk t ht).1
 have KI:Hid (∀(j:Int) (text:ByteArray) (W:World),Below w.heap.size w W->-10<=j->j<=1048577->Calls Tryz.prog 31 #[.slice (some ⟨b,off,none⟩) l.length cap,.int .i64 j,.string text] W fun e w'=>e=.returned (.bool (Pl.isV l j text))/\w'=W):=fun j text W hW h1 h2 =>
  l3Is_any l _ cap j text W hl ⟨h1,h2⟩ ((hR.keep hW).up hW.size)
 have HT:Hid (∀W,Below w.heap.size w W->W.cell? ⟨b,off,none⟩=some (.int .u8 (Pl.tq l 0).k)/\W.cell? ⟨b,off+1,none⟩=some (.string (Pl.tq l 0).tx)):=fun W hW=>by
  rcases hR with rfl|⟨b',off',hbw,e,hc⟩
  ·simp at hl0
  cases e
  have:=hc 0 (Pl.tq l 0) (by unfold Pl.tq;rw[List.getElem?_eq_getElem hl0];rfl)
  rw[Nat.zero_mul,Nat.add_zero] at this
  exact⟨bcell hW hbw this.1,bcell hW hbw this.2.1⟩
 have KX:Hid (∀W:World,Below w.heap.size w W->Calls Tryz.prog 33 #[.slice (some ⟨b,off,none⟩) l.length cap] W fun e w'=>∃v,e=.returned v/\Below W.heap.size W w'/\CodeR W.heap.size w' v ((Pl.rexpr n (l.map Pl.tkT)).map ofE)):=fun W hW=>H l _ cap W hl hcap hcp hn hk' ((hR.keep hW).up hW.size)
 have KY:Hid (2<cap->1<l.length->∀W:World,Below w.heap.size w W->Calls Tryz.prog 33 #[.slice (some ⟨b,off+2 * 4,none⟩) (l.length-2) (cap-2)] W fun e w'=>∃v,e=.returned v/\Below W.heap.size W w'/\CodeR W.heap.size w' v ((Pl.rexpr n ((l.drop 2).map Pl.tkT)).map ofE)):=fun h2 h3 W hW=>by
  have:=H (l.drop 2) (some ⟨b,off+2 * 4,none⟩) (cap-2) W (by simp;omega) (by simp;omega) oM (by simp;omega) (fun t ht=>hk' t (List.mem_of_mem_drop ht)) (((hR.keep hW).up hW.size).drop 2)
  rw[List.length_drop] at this
  exact this
 have KZ:Hid (cap=2->l.length=2->∀W:World,Below w.heap.size w W->Calls Tryz.prog 33 #[.slice (some ⟨b,off,none⟩) 0 0] W fun e w'=>∃v,e=.returned v/\Below W.heap.size W w'/\CodeR W.heap.size w' v ((Pl.rexpr n ((l.drop 2).map Pl.tkT)).map ofE)):=fun h2 h3 W hW=>by
  have e:l.drop 2=[]:=List.drop_eq_nil_of_le oM
  rw[e]
  exact H [] (some ⟨b,off,none⟩) 0 W sI sI sI (by simp;omega) sI (.inl rfl)
 have KB:Hid (3<l.length->∀W:World,Below w.heap.size w W->Calls Tryz.prog 32 #[.string (Pl.tq l 0).tx,.slice (some ⟨b,off+3 * 4,none⟩) (l.length-1-3) (cap-3)] W fun e w'=>∃v,e=.returned v/\Below W.heap.size W w'/\ReadR W.heap.size w' v ((Pl.rbd n (Pl.rsp 0 [] (((l.take (l.length-1)).drop 3).map Pl.tkT))).map fun q=>.fn (Pl.tq l 0).tx.data.toList q.1 q.2)):=fun h3 W hW=>by
  have hlen:((l.take (l.length-1)).drop 3).length=l.length-1-3:=by simp
  have:=l3Body_of n H (Pl.tq l 0).tx ((l.take (l.length-1)).drop 3) b (off+3 * 4) (cap-3) W oM oM oM oM (fun t ht=>hk t (List.mem_of_mem_take (List.mem_of_mem_drop ht))) (((hR.keep hW).up hW.size).part 3 (l.length-1))
  rw[hlen] at this
  exact this
 have R1:=Rx.new w
 have P1:=fun (h:¬Pl.isV l 1 ⟨#[58,61]⟩=true)=>Pl.rstmt_val (n:=n) h hk'
 have hlen1:Pl.isV l 1 ⟨#[58,61]⟩=true->1<l.length:=fun h=>by
  by_cases h1:1<l.length
  ·exact h1
  rw[show (1:Int)=((1:Nat):Int) from rfl,Pl.isV_past oM] at h;cases h
 have P2:=fun (h:Pl.isV l 1 ⟨#[58,61]⟩=true)=>Pl.rstmt_other (n:=n) hk' (hlen1 h) h
 have P3:=fun (h:Pl.isV l 1 ⟨#[58,61]⟩=true)=>Pl.rstmt_asg (n:=n) hk' (hlen1 h) h
 have P4:=fun (h:Pl.isV l 1 ⟨#[58,61]⟩=true)=>Pl.rstmt_self (n:=n) hk' (hlen1 h) h
 have P5:=fun (h:Pl.isV l 1 ⟨#[58,61]⟩=true)=>Pl.rstmt_fn (n:=n) hk' (hlen1 h) h
 have hsf:((Pl.tq l 0).tx.toList == [115,101,108,102])=decide ((Pl.tq l 0).tx.data.toList=Pl.selfW):=by
  rw[ByteArray.toList_eq,Bool.eq_iff_iff,beq_iff_eq,decide_eq_true_iff]
  rfl
 have KA:=zH (KI.out 1 ⟨#[58,61]⟩)
 have KL:=zH (KI.out 2 ⟨#[123]⟩)
 have KR:=zH (KI.out ((l.length:Int)-1) ⟨#[125]⟩)
 have hlen1':=hlen1
 clear hR H hk hk' KI hlen1
 generalize hRS:Pl.rstmt n (l.map Pl.tkT)=R at *
 generalize hV1:Pl.isV l 1 ⟨#[58,61]⟩=v1 at *
 generalize hV2:Pl.isV l 2 ⟨#[123]⟩=v2 at *
 generalize hV3:Pl.isV l ((l.length:Int)-1) ⟨#[125]⟩=v3 at *
 clear hV1 hV2 hV3 hRS
 generalize hX0:Pl.rexpr n (l.map Pl.tkT)=X0 at *
 generalize hX2:Pl.rexpr n ((l.drop 2).map Pl.tkT)=X2 at *
 generalize hXB:Pl.rbd n (Pl.rsp 0 [] (((l.take (l.length-1)).drop 3).map Pl.tkT))=XB at *
 generalize ht0:Pl.tq l 0=t at *
 generalize hL:l.length=L at *
 clear hX0 hX2 hXB ht0
 cases v1
 ·have HR:=P1 sI
  clear P1 P2 P3 P4 P5 KL KR KB KY KZ
  exact tStw1
 have h2:=hlen1' rfl
 have c0:=fun o1=>(HT.out _ ((Below.refl w.heap.size w).alloc (Nat.le_refl _) o1)).1
 have c1:=fun o1=>(HT.out _ ((Below.refl w.heap.size w).alloc (Nat.le_refl _) o1)).2
 have e0:=fun o1 o2 o3=>(HT.out _ ((((Below.refl w.heap.size w).alloc (Nat.le_refl _) o1).alloc sI o2).alloc (by simp <;> omega) o3)).1
 have e1:=fun o1 o2 o3=>(HT.out _ ((((Below.refl w.heap.size w).alloc (Nat.le_refl _) o1).alloc sI o2).alloc (by simp <;> omega) o3)).2
 by_cases h70:t.k=70
 rotate_left 1
 ·have hkb7:(t.k == 70)=false:=by simpa using h70
  by_cases h119:t.k=119
  rotate_left 1
  ·have hkb9:(t.k == 119)=false:=by simpa using h119
   have HR:=P2 rfl h119 h70
   clear P1 P2 P3 P4 P5 KL KR KB KY KZ HT
   exact tStw1
  have HR:=P3 rfl h119
  rw[h119] at c0 e0 hkb7
  clear P1 P2 P3 P4 P5 KL KR KB KX h70
  by_cases hc2:cap=2
  ·subst hc2
   obtain rfl:L=2:=by omega
   have BX:Hid (∀o1 o2 o3,Below w.heap.size w (((w.alloc o1).alloc o2).alloc o3)):=fun o1 o2 o3=>(((Below.refl _ _).alloc (Nat.le_refl _) _).alloc sI _).alloc (by simp <;> omega) _
   have BY:Hid (∀o1,Below w.heap.size w (w.alloc o1)):=fun o1=>(Below.refl _ _).alloc (Nat.le_refl _) _
   have hm:∀e,((Pl.S.asg t.tx.data.toList) e).tv=⟨2,(t.tx).data.toList,e.code,[]⟩/\((Pl.S.asg t.tx.data.toList) e).fine=e.fine:=fun e=>⟨rfl,rfl⟩
   go_enter Tryz.func14,Tryz.ntmps14
   go_wp2_with (first | (go_at_call 31;with_reducible refine(KA.out _ (BY.out _) oM oM).mono ?_;rintro e' w2 ⟨rfl,rfl⟩) | (go_at_call 31;with_reducible refine(KA.out _ (BX.out _ _ _) oM oM).mono ?_;rintro e' w2 ⟨rfl,rfl⟩))
   refine(KZ.out (by first | trivial | rfl) (by first | trivial | rfl) _ (BX.out _ _ _)).mono ?_
   exact tStw2
  have hc3:2<cap:=by omega
  have KY2:=zH (KY.out hc3 h2)
  have BX:Hid (∀o1 o2 o3,Below w.heap.size w (((w.alloc o1).alloc o2).alloc o3)):=fun o1 o2 o3=>(((Below.refl _ _).alloc (Nat.le_refl _) _).alloc sI _).alloc (by simp <;> omega) _
  have BY:Hid (∀o1,Below w.heap.size w (w.alloc o1)):=fun o1=>(Below.refl _ _).alloc (Nat.le_refl _) _
  have hm:∀e,((Pl.S.asg t.tx.data.toList) e).tv=⟨2,(t.tx).data.toList,e.code,[]⟩/\((Pl.S.asg t.tx.data.toList) e).fine=e.fine:=fun e=>⟨rfl,rfl⟩
  go_enter Tryz.func14,Tryz.ntmps14
  go_wp2_with (first | (go_at_call 31;with_reducible refine(KA.out _ (BY.out _) oM oM).mono ?_;rintro e' w2 ⟨rfl,rfl⟩) | (go_at_call 31;with_reducible refine(KA.out _ (BX.out _ _ _) oM oM).mono ?_;rintro e' w2 ⟨rfl,rfl⟩))
  refine(KY2.out _ (BX.out _ _ _)).mono ?_
  exact tStw2
 have hkb:(t.k == 119)=false:=by rw[h70];rfl
 by_cases hself:t.tx.data.toList=Pl.selfW
 ·have HR:=P4 rfl h70 hself
  rw[decide_eq_true hself] at hsf
  rw[h70] at c0 e0
  clear P1 P2 P3 P4 P5 KL KR KB KY KZ HT hself
  exact tStw1
 have HR:=P5 rfl h70 hself
 rw[decide_eq_false hself] at hsf
 rw[h70] at c0 e0
 clear P1 P2 P3 P4 P5 KX KY KZ hself
 have BY:Hid (∀o1,Below w.heap.size w (w.alloc o1)):=fun o1=>(Below.refl _ _).alloc (Nat.le_refl _) _
 by_cases h4:L<4
 ·have HRN:=zH (show R=none by rw[HR,if_pos (.inl h4)])
  exact tStw3
 have hi4:¬((L:Int)<4):=by omega
 cases v2
 ·have HRN:=zH (show R=none by rw[HR,if_pos (.inr (.inl sI))])
  exact tStw3
 cases v3
 ·have HRN:=zH (show R=none by rw[HR,if_pos (.inr (.inr sI))])
  exact tStw3
 have HRS:=zH (show R=XB.map fun q=>.fn t.tx.data.toList q.1 q.2 by rw[HR,if_neg (by rintro (h | h | h);omega;exact h rfl;exact h rfl)])
 clear HR
 go_enter Tryz.func14,Tryz.ntmps14
 go_wp2_with (first | (go_at_call 31;with_reducible refine(KA.out _ (BY.out _) oM oM).mono ?_;rintro e' w2 ⟨rfl,rfl⟩) | (go_at_call 31;with_reducible refine(KL.out _ (BY.out _) oM oM).mono ?_;rintro e' w2 ⟨rfl,rfl⟩) | (go_at_call 31;with_reducible refine(KR.out _ (BY.out _) oM oM).mono ?_;rintro e' w2 ⟨rfl,rfl⟩))
 have B0:Hid (Below w.heap.size w (w.alloc (.cells #[.int .i64 0,.string ⟨#[]⟩,.slice none 0 0,.slice none 0 0,.bool false,.bool false] 45)).drew):=(BY.out _).drew
 have R0:Hid (Rx w (w.alloc (.cells #[.int .i64 0,.string ⟨#[]⟩,.slice none 0 0,.slice none 0 0,.bool false,.bool false] 45)).drew):=R1.keep ((Below.refl _ _).drew)
 have hz0:(w.alloc (.cells #[.int .i64 0,.string ⟨#[]⟩,.slice none 0 0,.slice none 0 0,.bool false,.bool false] 45)).drew.heap.size=w.heap.size+1:=by simp
 have hLw:IntKind.i64.wrap ((L:Int)-1)=((L-1:Nat):Int):=by rw[IntKind.wrap_i64];omega
 refine wp_region_held (S:=fun W=>Below w.heap.size w W) kR ?_
 change wpAnyH _ _ _ _ _ _ _ _ (World.drew _)
 generalize (w.alloc (.cells #[.int .i64 0,.string ⟨#[]⟩,.slice none 0 0,.slice none 0 0,.bool false,.bool false] 45)).drew=W0 at B0 R0 hz0 ⊢
 refine tz 0 (.slice (some ⟨b,off,none⟩) L cap) rfl B0.out (fun W hW=>exec_moveq (.tmp 0) _ rfl kR W) ?_
 refine tz 1 (.pointer (some ⟨b,off+0 * 4,none⟩)) rfl B0.out (fun W hW=>exec_idx28 (.tmp 39) (.const (.int .i64 0)) b off L cap 0 rfl kR kR oM W) ?_
 refine tz 2 (.pointer (some ⟨b,off+0 * 4+1,none⟩)) rfl B0.out (fun W hW=>exec_f31_1 (.tmp 40) b (off+0 * 4) rfl kR W) ?_
 refine tz 3 (.string t.tx) rfl B0.out (fun W hW=>exec_load9s (.tmp 41) b (off+0 * 4+1) t.tx W rfl kR (HT.out W hW).2) ?_
 refine tz 4 (.slice (some ⟨b,off,none⟩) L cap) rfl B0.out (fun W hW=>exec_moveq (.tmp 0) _ rfl kR W) ?_
 refine tz 5 (.int .i64 (L:Int)) rfl B0.out (fun W hW=>exec_moveq (.tmp 3) _ rfl kR W) ?_
 refine tz 6 (.int .i64 ((L-1:Nat):Int)) rfl B0.out (fun W hW=>exec_sub3 (.tmp 44) (.const (.int .i64 1)) (L:Int) 1 _ rfl kR rfl hLw W) ?_
 refine tz 7 (.slice (some ⟨b,off+3 * 4,none⟩) (L-1-3) (cap-3)) rfl B0.out (fun W hW=>exec_sl28 (.tmp 43) (.const (.int .i64 3)) (.tmp 45) b off L cap 3 (L-1) rfl kR kR kR oM oM oM W) ?_
 refine step_callq (i:=8) kR rfl rfl 32 _ (exec_call2 32 enter27 (.tmp 42) (.tmp 46) (.string t.tx) (.slice (some ⟨b,off+3 * 4,none⟩) (L-1-3) (cap-3)) _ rfl kR kR W0) ?_
 refine(KB.out oM W0 B0.out).mono ?_
 rintro e' w4 ⟨v,rfl,hb4,hrd⟩
 obtain⟨k4,nm4,ac,nc,cc,ag,ng,cg,ok4,fi4,rfl⟩:=hrd.form
 have R4:=R0.out.keep hb4
 refine⟨_,rfl,R4.b,?_⟩
 refine step_skip (i:=9) kR rfl rfl (exec_store39 (.tmp 2) (.tmp 47) w.heap.size k4 nm4 ac nc cc ag ng cg ok4 fi4 _ _ _ _ _ _ w4 rfl kR kR R4.r0 R4.r1 R4.r2 R4.r3 R4.r4 R4.r5 R4.rf) (below_far R4.b (grown_box6 _ _ _ _ _ _ _ _) (Nat.le_of_lt R4.lt) (Nat.le_refl _)) ?_
 refine wpAnyH_done kR ?_ _
 obtain⟨bb,lt,r0,r1,r2,r3,r4,r5,rf⟩:=R4
 have HRD:=zH hrd
 clear hb4 hrd
 go_wp2_with fail
 refine bodyPost_ret (v:=.agg #[.int .i64 k4,.string nm4,.slice ac nc cc,.slice ag ng cg,.bool ok4,.bool fi4]) (by simp[results,Tryz.results14,go_sem,r0,r1,r2,r3,r4,r5]) rfl ⟨_,rfl,below_far bb (grown_box6 _ _ _ _ _ _ _ _) oM (Nat.le_refl _),?_⟩
 rw[HRS.out]
 exact(HRD.out.far (grown_box6 w4 w.heap.size _ _ _ _ _ _) oM).low oM
end Go.Proofs.YtbiiicbfpcfgdaaGreatDoor
