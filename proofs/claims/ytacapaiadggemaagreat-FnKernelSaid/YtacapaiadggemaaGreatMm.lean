import Derived.Test.YtacapaiadggemaaGreatRows2
import Derived.Test.YtacapaiadggemaaGreatFl8
import Derived.Test.YtacapaiadggemaaGreatDv
namespace Go.Proofs.YtacapaiadggemaaGreat
open Go.RowKit
set_option maxRecDepth 100000
set_option maxHeartbeats 16000000
set_option linter.unusedVariables false
theorem chosenM_no (n:Int) (b:Nat) (w:World) (h:n<1\/8<=n):Calls Tryz.prog 104 #[.int .i64 n,.slice (some ⟨b,0,none⟩) 8 8] w fun e w'=>e=.panicked [thrown 9]/\w'=w:=by
 rcases h with h | h
 ·go_enter Tryz.func104,Tryz.ntmps104
  go_wp2_with (go_at_call 73; refine (refuse_yes _ _).mono ?_; rintro e w' ⟨rfl,rfl⟩)
  exact ⟨rfl,rfl,rfl⟩
 have h':¬n<1:=by omega
 go_enter Tryz.func104,Tryz.ntmps104
 go_wp2_with (go_at_call 73; refine (refuse_yes _ _).mono ?_; rintro e w' ⟨rfl,rfl⟩)
 exact ⟨rfl,rfl,rfl⟩
theorem chosenM_yes (k b:Nat) (v:Value) (w:World) (h0:1<=k) (h1:k<8) (hc:w.cell? ⟨b,k,none⟩=some v):Calls Tryz.prog 104 #[.int .i64 (k:Int),.slice (some ⟨b,0,none⟩) 8 8] w fun e w'=>e=.returned v/\w'=w:=by
 have e0:¬((k:Int)<1):=by omega
 have e1:¬(8<=(k:Int)):=by omega
 go_enter Tryz.func104,Tryz.ntmps104
 go_wp2_with (go_at_call 73; refine (refuse_no _ _).mono ?_; rintro e w' ⟨rfl,rfl⟩)
 go_ret
 exact ⟨rfl,rfl⟩
theorem monadOf_no (n:Int) (w:World) (h:n<1\/8<=n):Calls Tryz.prog 51 #[.int .i64 n] w fun e w'=>e=.panicked [thrown 9]/\Below w.heap.size w w':=by
 have K:=hideP (fun b w=>chosenM_no n b w h)
 clear h
 go_enter Tryz.func51,Tryz.ntmps51
 go_wp2_with (go_at_call 104; refine (K.out _ _).mono ?_; rintro e w' ⟨rfl,rfl⟩)
 exact ⟨rfl,rfl,(Below.refl _ _).alloc (Nat.le_refl _) _⟩
theorem monadOf_yes (k:Nat) (w:World) (h0:1<=k) (h1:k<8):Calls Tryz.prog 51 #[.int .i64 (k:Int)] w fun e w'=>e=.returned (.func (.func (104+k)) #[] #[])/\Below w.heap.size w w':=by
 have K:=hideP (fun b v w=>chosenM_yes k b v w h0 h1)
 have hk:k=1\/k=2\/k=3\/k=4\/k=5\/k=6\/k=7:=by omega
 clear h0 h1
 rcases hk with rfl | rfl | rfl | rfl | rfl | rfl | rfl
 all_goals
  go_enter Tryz.func51,Tryz.ntmps51
  go_wp2_with fail
  refine (K.out _ _ _ (by simp [go_sem]; rfl)).mono ?_
  rintro e w' ⟨rfl,rfl⟩
  go_wp2_with fail
  go_ret
  exact ⟨rfl,(Below.refl _ _).alloc (Nat.le_refl _) _⟩
namespace Pl
def mo8 (M:List Int->List Int->Int × List Int × List Int) (op:Int) (sh da:List Int):Int × List Int × List Int:=if 1<=op/\op<8/\okB sh da=true then M sh da else (9,[],[])
theorem mo8_no {M:List Int->List Int->Int × List Int × List Int} {op:Int} {sh da:List Int} (h:¬(1<=op/\op<8/\okB sh da=true)):mo8 M op sh da=(9,[],[]):=by unfold mo8; rw [if_neg h]
theorem mo8_yes {M:List Int->List Int->Int × List Int × List Int} {op:Int} {sh da:List Int} (h:1<=op/\op<8/\okB sh da=true):mo8 M op sh da=M sh da:=by unfold mo8; rw [if_pos h]
end Pl
theorem callF111 (args:Array Value) (w:World):(callFunc 105 args).run Tryz.prog w=.ok (.enter 105 args) w:=by kernel_rfl
theorem callF112 (args:Array Value) (w:World):(callFunc 106 args).run Tryz.prog w=.ok (.enter 106 args) w:=by kernel_rfl
theorem callF113 (args:Array Value) (w:World):(callFunc 107 args).run Tryz.prog w=.ok (.enter 107 args) w:=by kernel_rfl
theorem callF114 (args:Array Value) (w:World):(callFunc 108 args).run Tryz.prog w=.ok (.enter 108 args) w:=by kernel_rfl
theorem callF115 (args:Array Value) (w:World):(callFunc 109 args).run Tryz.prog w=.ok (.enter 109 args) w:=by kernel_rfl
theorem callF116 (args:Array Value) (w:World):(callFunc 110 args).run Tryz.prog w=.ok (.enter 110 args) w:=by kernel_rfl
theorem callF117 (args:Array Value) (w:World):(callFunc 111 args).run Tryz.prog w=.ok (.enter 111 args) w:=by kernel_rfl
theorem callM (k:Nat) (h0:1<=k) (h1:k<8) (args:Array Value) (w:World):(callFunc (104+k) args).run Tryz.prog w=.ok (.enter (104+k) args) w:=by
 have hk:k=1\/k=2\/k=3\/k=4\/k=5\/k=6\/k=7:=by omega
 rcases hk with rfl | rfl | rfl | rfl | rfl | rfl | rfl
 ·exact callF111 args w
 ·exact callF112 args w
 ·exact callF113 args w
 ·exact callF114 args w
 ·exact callF115 args w
 ·exact callF116 args w
 exact callF117 args w
theorem mc_all (pa po:Nat) (op:Int) (v0 v1:Value) (sa da:List Int) (w:World) (hl0:sa.length<=1048576) (hl1:da.length<=1048576) (h0:Rd w.heap.size w v0 sa) (h1:Rd w.heap.size w v1 da)
  (ca0:w.cell? ⟨pa,0,none⟩=some v0) (ca1:w.cell? ⟨pa,1,none⟩=some v1) (co:w.cell? ⟨po,0,none⟩=some (.int .i64 op)) (M:List Int->List Int->Int × List Int × List Int) (c:Int) (S D:List Int) (hres:Pl.mo8 M op sa da=(c,S,D))
  (hk:∀k:Nat,op=k->1<=k->k<8->Pl.okB sa da=true->M sa da=(c,S,D)->∀w',Below w.heap.size w w'->Calls Tryz.prog (104+k) #[.agg #[v0,v1]] w' (KPost w' c S D)) :
  Calls Tryz.prog 50 #[.pointer (some ⟨pa,0,none⟩),.pointer (some ⟨po,0,none⟩)] w (KPost w c S D):=by
 have hpa:=World.block_lt_of_cell? w ⟨pa,0,none⟩ ca0
 have hpo:=World.block_lt_of_cell? w ⟨po,0,none⟩ co
 simp only at hpa hpo
 have A:Hid (∀o,Below w.heap.size w (w.alloc o)):=fun o=>(Below.refl _ _).alloc (Nat.le_refl _) _
 have K:=hideP (valid1_new v0 v1 sa da w hl0 hl1 h0 h1)
 have HKK:=hideP hk
 have HR:=hideP hres
 obtain ⟨a0,d0,e0⟩:=h0.form
 obtain ⟨a1,d1,e1⟩:=h1.form
 subst e0 e1
 clear h0 h1 hk hres
 have ne:¬pa=w.heap.size:=by omega
 go_enter Tryz.func50,Tryz.ntmps50
 go_wp2_with fail
 refine (K.out _ _).mono ?_
 rintro e w1 ⟨hb,⟨hq,rfl⟩ | ⟨hq,rfl⟩⟩
 rotate_left 1
 ·have e:=HR.out
  rw [Pl.mo8_no (by intro h; exact hq h.2.2)] at e
  simp only [Prod.mk.injEq] at e
  obtain ⟨rfl,rfl,rfl⟩:=e
  exact ⟨rfl,(A.out _).trans (hb.mono (by omega)),.inr ⟨by decide,rfl,rfl,rfl⟩⟩
 have hb':=(A.out (.cells #[.slice none 0 0,.slice none 0 0] 25)).trans (hb.mono (by omega))
 have hs:=hb.size
 simp at hs
 have B1:=hideP hb'.drew
 have HQ:=hideP hq
 have CR:Hid (w1.drew.cell? ⟨w.heap.size,0,none⟩=some (.slice none 0 0)/\w1.drew.cell? ⟨w.heap.size,1,none⟩=some (.slice none 0 0)/\∀o,w1.drew.frozen? ⟨w.heap.size,o,none⟩=false) :=
  ⟨(hb.cell (p:=⟨w.heap.size,0,none⟩) (by show w.heap.size<_; omega)).trans (by simp [go_sem]),(hb.cell (p:=⟨w.heap.size,1,none⟩) (by show w.heap.size<_; omega)).trans (by simp [go_sem]),fun o=>(hb.frozen (p:=⟨w.heap.size,o,none⟩) (by show w.heap.size<_; omega)).trans (by simp [go_sem])⟩
 have L0:∀w',Below w.heap.size w w'->w'.cell? ⟨po,0,none⟩=some (.int .i64 op):=fun w' h=>(h.cell (p:=⟨po,0,none⟩) hpo).trans co
 have L1:∀w',Below w.heap.size w w'->w'.cell? ⟨pa,0,none⟩=some (.slice a0 sa.length d0):=fun w' h=>(h.cell (p:=⟨pa,0,none⟩) hpa).trans ca0
 have L2:∀w',Below w.heap.size w w'->w'.cell? ⟨pa,1,none⟩=some (.slice a1 da.length d1):=fun w' h=>(h.cell (p:=⟨pa,1,none⟩) hpa).trans ca1
 clear hb hb' ca0 ca1 co hq K
 go_wp2_with fail
 refine wp_region_held (S:=fun w'=>Below w.heap.size w w') (by kernel_rfl) ?_
 change wpAnyH _ _ _ _ _ _ _ _ (World.drew _)
 refine tz 0 (.int .i64 op) rfl B1.out (fun w' hS=>by have:=L0 w' hS; clear L0 L1 L2 hS; go_simp) ?_
 refine tz 2 (.agg #[.slice a0 sa.length d0,.slice a1 da.length d1]) rfl B1.out (fun w' hS=>by have:=L1 w' hS; have:=L2 w' hS; clear L0 L1 L2 hS; go_simp) ?_
 clear L0 L1 L2
 refine ry1 1 rfl (fun K hK=>?_)
 go_simp
 by_cases hop:1<=op/\op<8
 rotate_left 1
 ·have e:=HR.out
  rw [Pl.mo8_no (by intro h; exact hop ⟨h.1,h.2.1⟩)] at e
  simp only [Prod.mk.injEq] at e
  obtain ⟨rfl,rfl,rfl⟩:=e
  refine (monadOf_no op _ (by omega)).mono ?_
  rintro e w2 ⟨rfl,hb2⟩
  exact ⟨rfl,B1.out.trans (hb2.mono (by show _<=w1.heap.size; omega)),.inr ⟨by decide,rfl,rfl,rfl⟩⟩
 obtain ⟨k,rfl⟩:=Int.eq_ofNat_of_zero_le (show 0<=op by omega)
 have e:=HR.out
 rw [Pl.mo8_yes ⟨hop.1,hop.2,HQ.out⟩] at e
 have HK2:=hideP (HKK.out k rfl (by omega) (by omega) HQ.out e)
 have hk0:1<=k:=by omega
 have hk1:k<8:=by omega
 have hcf:=callM k hk0 hk1
 clear HKK HR e hop
 refine (monadOf_yes k _ hk0 hk1).mono ?_
 rintro e w2 ⟨rfl,hb2⟩
 have B2:=hideP (B1.out.trans (hb2.mono (by show _<=w1.heap.size; omega)))
 have hs2:w.heap.size+1<=w2.heap.size:=by
  have:=hb2.size
  have e:w1.drew.heap.size=w1.heap.size:=rfl
  omega
 have C2:=hideP (And.intro ((hb2.cell (p:=⟨w.heap.size,0,none⟩) hs).trans CR.out.1) (And.intro ((hb2.cell (p:=⟨w.heap.size,1,none⟩) hs).trans CR.out.2.1) (fun o=>(hb2.frozen (p:=⟨w.heap.size,o,none⟩) hs).trans (CR.out.2.2 o))))
 clear hb2
 refine hK.out _ _ B2.out (fun _=>?_)
 clear hK
 refine ry1 3 rfl (fun K hK=>?_)
 go_simp
 refine (HK2.out w2 B2.out).mono ?_
 rintro e w3 ⟨hb3,⟨rfl,u0,u1,rfl,hres⟩ | ⟨hc,rfl,rfl,rfl⟩⟩
 rotate_left 1
 ·exact ⟨rfl,B2.out.trans (hb3.mono (by omega)),.inr ⟨hc,rfl,rfl,rfl⟩⟩
 have B3:=hideP (B2.out.trans (hb3.mono (by omega)))
 have R3:=hideP hres
 obtain ⟨q0,q1,f2⟩:=C2.out
 have r0:w3.cell? ⟨w.heap.size,0,none⟩=some (.slice none 0 0):=(hb3.cell (p:=⟨w.heap.size,0,none⟩) (by show w.heap.size<_; omega)).trans q0
 have r1:w3.cell? ⟨w.heap.size,1,none⟩=some (.slice none 0 0):=(hb3.cell (p:=⟨w.heap.size,1,none⟩) (by show w.heap.size<_; omega)).trans q1
 have f3:∀o,w3.frozen? ⟨w.heap.size,o,none⟩=false:=fun o=>(hb3.frozen (p:=⟨w.heap.size,o,none⟩) (by show w.heap.size<_; omega)).trans (f2 o)
 obtain ⟨x0,y0,e0⟩:=hres.1.form
 obtain ⟨x1,y1,e1⟩:=hres.2.1.form
 subst e0 e1
 clear hres hb3 q0 q1 f2
 refine hK.out _ _ B3.out (fun _=>?_)
 clear hK
 refine ry1 4 rfl (fun K hK=>?_)
 go_simp
 refine hK.out _ _ ((B3.out.setCell (by simp) _).setCell (by simp) _) (fun _=>?_)
 clear hK
 refine wpAnyH_done (by kernel_rfl) ?_ _
 go_wp2_with fail
 refine bodyPost_ret (v:=.agg #[.slice x0 S.length y0,.slice x1 D.length y1]) (by simp [results,Tryz.results50,go_sem,r0,r1]) rfl ⟨(B3.out.setCell (by simp) _).setCell (by simp) _,.inl ⟨rfl,_,_,rfl,?_,?_,R3.out.2.2⟩⟩
 ·exact Own.base (Own.store (Own.store R3.out.1 (by omega) _) (by omega) _) (by omega)
 exact Own.base (Own.store (Own.store R3.out.2.1 (by omega) _) (by omega) _) (by omega)
namespace Pl
def countM (sh da:List Int):Int × List Int × List Int:=(0,[],[(axesS sh da).getD 0 0])
def monM (op:Int) (sh da:List Int):Int × List Int × List Int:=if op=1 then iotaM sh da else if op=2 then (0,[(sh.length:Int)],sh) else if op=3 then (0,[(da.length:Int)],da) else if op=4 then revM sh da else if op=5 then flipM sh da else if op=6 then gradeM sh da else countM sh da
end Pl
structure Cy (w:World) (v0 v1:Value) (wx:World):Prop where
 bel:Below w.heap.size w wx
 size:w.heap.size+1<wx.heap.size
 a0:wx.cell? ⟨w.heap.size,0,none⟩=some v0
 a1:wx.cell? ⟨w.heap.size,1,none⟩=some v1
 res:wx.cell? ⟨w.heap.size+1,0,none⟩=some (.slice none 0 0)/\wx.cell? ⟨w.heap.size+1,1,none⟩=some (.slice none 0 0)/\∀o,wx.frozen? ⟨w.heap.size+1,o,none⟩=false
theorem Cy.keep {w wx w':World} {v0 v1:Value} (h:Cy w v0 v1 wx) (hb:Below wx.heap.size wx w'):Cy w v0 v1 w':=by
 have hs:=hb.size
 have h2:=h.size
 have k:∀b o v,b<wx.heap.size->wx.cell? ⟨b,o,none⟩=some v->w'.cell? ⟨b,o,none⟩=some v:=fun b o v hlt e=>(hb.cell (p:=⟨b,o,none⟩) hlt).trans e
 have f:∀b o,b<wx.heap.size->wx.frozen? ⟨b,o,none⟩=false->w'.frozen? ⟨b,o,none⟩=false:=fun b o hlt e=>(hb.frozen (p:=⟨b,o,none⟩) hlt).trans e
 exact ⟨h.bel.trans (hb.mono (by omega)),by omega,k _ _ _ (by omega) h.a0,k _ _ _ (by omega) h.a1,k _ _ _ (by omega) h.res.1,k _ _ _ (by omega) h.res.2.1,fun o=>f _ _ (by omega) (h.res.2.2 o)⟩
theorem Cy.new (w:World) (v0 v1:Value):Cy w v0 v1 ((w.alloc (.cells #[v0,v1] 25)).alloc (.cells #[.slice none 0 0,.slice none 0 0] 25)):=by
 obtain ⟨⟨x0,x1⟩,x2,x3⟩:=boxes2 (Below.refl (w.heap.size+1+1) ((w.alloc (.cells #[v0,v1] 25)).alloc (.cells #[.slice none 0 0,.slice none 0 0] 25)))
 exact ⟨x3,by simp,x0,x1,x2⟩
theorem specM_bad (op:Int) (v0 v1:Value) (sh da:List Int) (w:World) (hl0:sh.length<=1048576) (hl1:da.length<=1048576) (h0:Sl w v0 sh) (h1:Sl w v1 da) (hbad:¬(1<=op/\op<8/\Pl.okB sh da=true)) :
  Calls Tryz.prog 12 #[.int .i64 op,.agg #[v0,v1]] w (FPost w 9 [] []):=by
 have Z0:=hideP (Cy.new w v0 v1)
 have KA:Hid (∀w',Below w.heap.size w w'->Calls Tryz.prog 26 #[.agg #[v0,v1]] w' fun e w''=>e=.returned (.bool (Pl.okB sh da))/\Below w'.heap.size w' w''):=fun w' h=>specOk_any _ _ sh da w' hl0 hl1 (h0.keep h).rd (h1.keep h).rd
 obtain ⟨a0,k0,rfl,_⟩:=h0
 obtain ⟨a1,k1,rfl,_⟩:=h1
 by_cases g:op<1\/7<op
 ·have g':op<1\/(¬op<1/\7<op):=by omega
  clear hbad KA g
  generalize sh.length=ls at *
  generalize da.length=ld at *
  rcases g' with g1 | ⟨g1,g7⟩
  all_goals
   try have g1':=decide_eq_false g1
   go_enter Tryz.func12,Tryz.ntmps12
   go_wp2_with fail
   exact bodyPost_ret (v:=.tuple #[.agg #[.slice none 0 0,.slice none 0 0],.int .i64 9]) (by simp [results,Tryz.results12,go_sem]) rfl ⟨Z0.out.bel,_,_,rfl,Own.nil _ _,Own.nil _ _,.inl rfl⟩
 have g1:decide (op<1)=false:=by rw [decide_eq_false_iff_not]; omega
 have g7:decide (7<op)=false:=by rw [decide_eq_false_iff_not]; omega
 have hq:Pl.okB sh da=false:=by
  cases e:Pl.okB sh da
  ·rfl
  exact absurd ⟨by omega,by omega,e⟩ hbad
 rw [hq] at KA
 clear hbad hq g
 generalize sh.length=ls at *
 generalize da.length=ld at *
 go_enter Tryz.func12,Tryz.ntmps12
 go_wp2_with fail
 refine (KA.out _ Z0.out.bel).mono ?_
 rintro e w1 ⟨rfl,hb1⟩
 have Z1:=hideP (Z0.out.keep hb1)
 clear hb1
 have r0:=Z1.out.res.1
 have r1:=Z1.out.res.2.1
 have f2:=Z1.out.res.2.2
 go_wp2_with fail
 exact bodyPost_ret (v:=.tuple #[.agg #[.slice none 0 0,.slice none 0 0],.int .i64 9]) (by simp [results,Tryz.results12,go_sem,r0,r1]) rfl ⟨(Z1.out.bel.setCell (by simp) _).setCell (by simp) _,_,_,rfl,Own.nil _ _,Own.nil _ _,.inl rfl⟩
theorem specM_26 (op:Int) (F:Nat) (AR:Array Value) (v0 v1:Value) (sh da:List Int) (w:World) (hl0:sh.length<=1048576) (hl1:da.length<=1048576) (h0:Sl w v0 sh) (h1:Sl w v1 da) (hok:Pl.okB sh da=true) (S D:List Int)
  (hF:(op=2/\F=45/\AR=#[v0])\/(op=3/\F=45/\AR=#[v1])\/(op=4/\F=46/\AR=#[.agg #[v0,v1]])\/(op=5/\F=47/\AR=#[.agg #[v0,v1]])\/(op=6/\F=49/\AR=#[.agg #[v0,v1]])) (h6:op=6->sh.length=1)
  (hk:∀w',Below w.heap.size w w'->Calls Tryz.prog F AR w' fun e w''=>∃u0 u1,e=.returned (.agg #[u0,u1])/\Res w'.heap.size w'' u0 u1 S D/\Below w'.heap.size w' w'') :
  Calls Tryz.prog 12 #[.int .i64 op,.agg #[v0,v1]] w (FPost w 0 S D):=by
 have Z0:=hideP (Cy.new w v0 v1)
 have KA:Hid (∀w',Below w.heap.size w w'->Calls Tryz.prog 26 #[.agg #[v0,v1]] w' fun e w''=>e=.returned (.bool true)/\Below w'.heap.size w' w''):=fun w' h=>by
  rw [<- hok]
  exact specOk_any _ _ sh da w' hl0 hl1 (h0.keep h).rd (h1.keep h).rd
 have HK:=hideP hk
 have H6:Hid (op=6->((sh.length:Int) != 1)=false):=fun h=>by rw [h6 h]; rfl
 obtain ⟨a0,k0,rfl,_⟩:=h0
 obtain ⟨a1,k1,rfl,_⟩:=h1
 clear hok hk h6
 generalize sh.length=ls at *
 generalize da.length=ld at *
 rcases hF with ⟨rfl,rfl,rfl⟩ | ⟨rfl,rfl,rfl⟩ | ⟨rfl,rfl,rfl⟩ | ⟨rfl,rfl,rfl⟩ | ⟨rfl,rfl,rfl⟩
 all_goals
  try have hne:=H6.out rfl
  clear H6
  go_enter Tryz.func12,Tryz.ntmps12
  go_wp2_with fail
  refine (KA.out _ Z0.out.bel).mono ?_
  rintro e w1 ⟨rfl,hb1⟩
  have Z1:=hideP (Z0.out.keep hb1)
  have hs1:=Z1.out.size
  have KD:=hideP (HK.out w1 Z1.out.bel)
  clear hb1
  have c0:=Z1.out.a0
  have c1:=Z1.out.a1
  go_wp2_with fail
  refine KD.out.mono ?_
  rintro e w2 ⟨u0,u1,rfl,res2,hb2⟩
  have Z2:=hideP (Z1.out.keep hb2)
  have R2:=hideP res2
  have hs2:=hb2.size
  obtain ⟨x0,y0,x1,y1,e0,e1⟩:=res2.forms
  subst e0 e1
  clear hb2 res2 c0 c1 KD
  have r0:=Z2.out.res.1
  have r1:=Z2.out.res.2.1
  have f2:=Z2.out.res.2.2
  go_wp2_with fail
  refine bodyPost_ret (v:=.tuple #[.agg #[.slice x0 S.length y0,.slice x1 D.length y1],.int .i64 0]) (by simp [results,Tryz.results12,go_sem,r0,r1]) rfl ⟨(Z2.out.bel.setCell (by simp) _).setCell (by simp) _,_,_,rfl,?_,?_,R2.out.2.2⟩
  ·exact Own.base (Own.store (Own.store R2.out.1 (by omega) _) (by omega) _) (by omega)
  exact Own.base (Own.store (Own.store R2.out.2.1 (by omega) _) (by omega) _) (by omega)
theorem specM_1 (v0 v1:Value) (sh da:List Int) (w:World) (hl0:sh.length<=1048576) (hl1:da.length<=1048576) (h0:Sl w v0 sh) (h1:Sl w v1 da) (hok:Pl.okB sh da=true) (op c:Int) (S D:List Int)
  (hF:(op=1/\Pl.iotaM sh da=(c,S,D))\/(op=6/\¬sh.length=1/\c=2/\S=[]/\D=[])\/(op=7/\c=0/\S=[]/\D=[if sh.length=0 then 1 else sh.getD 0 0])) :
  Calls Tryz.prog 12 #[.int .i64 op,.agg #[v0,v1]] w (FPost w c S D):=by
 have Z0:=hideP (Cy.new w v0 v1)
 have KA:Hid (∀w',Below w.heap.size w w'->Calls Tryz.prog 26 #[.agg #[v0,v1]] w' fun e w''=>e=.returned (.bool true)/\Below w'.heap.size w' w''):=fun w' h=>by
  rw [<- hok]
  exact specOk_any _ _ sh da w' hl0 hl1 (h0.keep h).rd (h1.keep h).rd
 have KI:Hid (∀w',Below w.heap.size w w'->Pl.iotaM sh da=(c,S,D)->Calls Tryz.prog 44 #[.agg #[v0,v1]] w' (FPost w' c S D)):=fun w' h e=>l2Iota_any _ _ sh da w' hok (h0.keep h).rd (h1.keep h).rd c S D e
 have KC:Hid (∀W,Below w.heap.size w W->Calls Tryz.prog 48 #[.agg #[v0,v1]] W fun e w'=>e=.returned (.int .i64 (if sh.length=0 then 1 else sh.getD 0 0))/\Below W.heap.size W w'):=fun W hb=>l2Count_any _ _ sh W.heap.size W (h0.keep hb).rd (Nat.le_refl _) (by obtain ⟨a,k,e,_⟩:=h1; exact ⟨_,_,_,e⟩)
 obtain ⟨x,hx⟩:∃x,(if sh.length=0 then 1 else sh.getD 0 0)=x:=⟨_,rfl⟩
 rw [hx] at KC hF
 obtain ⟨a0,k0,rfl,_⟩:=h0
 obtain ⟨a1,k1,rfl,_⟩:=h1
 have H6:Hid (¬sh.length=1->((sh.length:Int) != 1)=true):=fun h=>by rw [bne_iff_ne]; omega
 clear hok hx
 have hG:(op=1/\Hid (∀w',Below w.heap.size w w'->Calls Tryz.prog 44 #[.agg #[.slice a0 sh.length k0,.slice a1 da.length k1]] w' (FPost w' c S D)))\/(op=6/\((sh.length:Int) != 1)=true/\c=2/\S=[]/\D=[])\/(op=7/\c=0/\S=[]/\D=[x]):=by
  rcases hF with ⟨h,e⟩ | ⟨h,e,h'⟩ | h
  ·exact .inl ⟨h,fun w' hb=>KI.out w' hb e⟩
  ·exact .inr (.inl ⟨h,H6.out e,h'⟩)
  exact .inr (.inr h)
 clear hF H6 KI
 generalize sh.length=ls at *
 generalize da.length=ld at *
 rcases hG with ⟨rfl,HK⟩ | ⟨rfl,hne,rfl,rfl,rfl⟩ | ⟨rfl,rfl,rfl,rfl⟩
 all_goals
  go_enter Tryz.func12,Tryz.ntmps12
  go_wp2_with fail
  refine (KA.out _ Z0.out.bel).mono ?_
  rintro e w1 ⟨rfl,hb1⟩
  have Z1:=hideP (Z0.out.keep hb1)
  have hs1:=Z1.out.size
  clear hb1
  have c0:=Z1.out.a0
  have c1:=Z1.out.a1
 ·have KD:=hideP (HK.out w1 Z1.out.bel)
  go_wp2_with fail
  refine KD.out.mono ?_
  rintro e w2 ⟨hb2,u0,u1,rfl,res2⟩
  have Z2:=hideP (Z1.out.keep hb2)
  have R2:=hideP res2
  have hs2:=hb2.size
  obtain ⟨x0,y0,x1,y1,e0,e1⟩:=Res.forms res2
  subst e0 e1
  clear hb2 res2 c0 c1 KD
  have r0:=Z2.out.res.1
  have r1:=Z2.out.res.2.1
  have f2:=Z2.out.res.2.2
  go_wp2_with fail
  refine bodyPost_ret (v:=.tuple #[.agg #[.slice x0 S.length y0,.slice x1 D.length y1],.int .i64 c]) (by simp [results,Tryz.results12,go_sem,r0,r1]) rfl ⟨(Z2.out.bel.setCell (by simp) _).setCell (by simp) _,_,_,rfl,?_,?_,R2.out.2.2⟩
  ·exact Own.base (Own.store (Own.store R2.out.1 (by omega) _) (by omega) _) (by omega)
  exact Own.base (Own.store (Own.store R2.out.2.1 (by omega) _) (by omega) _) (by omega)
 ·have r0:=Z1.out.res.1
  have r1:=Z1.out.res.2.1
  have f2:=Z1.out.res.2.2
  go_wp2_with fail
  exact bodyPost_ret (v:=.tuple #[.agg #[.slice none 0 0,.slice none 0 0],.int .i64 2]) (by simp [results,Tryz.results12,go_sem,r0,r1]) rfl ⟨(Z1.out.bel.setCell (by simp) _).setCell (by simp) _,_,_,rfl,Own.nil _ _,Own.nil _ _,.inl rfl⟩
 have AL:Hid (Below w1.heap.size w1 (w1.alloc (.cells #[] 3))):=(Below.refl _ _).alloc (Nat.le_refl _) _
 have ZA:=hideP (Z1.out.keep AL.out)
 have KD:=hideP (KC.out (w1.alloc (.cells #[] 3)) ZA.out.bel)
 have d0:=ZA.out.a0
 have d1:=ZA.out.a1
 go_wp2_with fail
 refine KD.out.mono ?_
 rintro e w2 ⟨rfl,hb2⟩
 have BA:Hid (Below w1.heap.size w1 w2):=AL.out.trans (hb2.mono (by simp))
 have Z2:=hideP (ZA.out.keep hb2)
 have A2:Hid (Below w2.heap.size w2 (w2.alloc (.cells #[.int .i64 x] 3))):=(Below.refl _ _).alloc (Nat.le_refl _) _
 have Z3:=hideP (Z2.out.keep A2.out)
 have O3:Hid (Own w2.heap.size (w2.alloc (.cells #[.int .i64 x] 3)) (.slice (some ⟨w2.heap.size,0,none⟩) 1 1) [x]):=own_lit w2 _ x (Below.refl _ _)
 have hs2:=BA.out.size
 clear hb2 c0 c1 d0 d1 KD AL
 have r0:=Z3.out.res.1
 have r1:=Z3.out.res.2.1
 have f2:=Z3.out.res.2.2
 go_wp2_with fail
 refine bodyPost_ret (v:=.tuple #[.agg #[.slice (some ⟨w1.heap.size,0,none⟩) 0 0,.slice (some ⟨w2.heap.size,0,none⟩) 1 1],.int .i64 0]) (by simp [results,Tryz.results12,go_sem,r0,r1]) rfl ⟨(Z3.out.bel.setCell (by simp) _).setCell (by simp) _,_,_,rfl,⟨_,_,rfl,.inl rfl⟩,?_,.inl rfl⟩
 exact Own.base (Own.store (Own.store O3.out (by omega) _) (by omega) _) (by omega)
theorem specM_face (op:Int) (v0 v1:Value) (sh da:List Int) (w:World) (hl0:sh.length<=1048576) (hl1:da.length<=1048576) (h0:Sl w v0 sh) (h0':op=1\/Sg w v0 sh) (h1:Sg w v1 da) (c:Int) (S D:List Int) (hres:Pl.mo8 (Pl.monM op) op sh da=(c,S,D)) :
  Calls Tryz.prog 12 #[.int .i64 op,.agg #[v0,v1]] w (FPost w c S D):=by
 by_cases h:1<=op/\op<8/\Pl.okB sh da=true
 rotate_left 1
 ·have e:=hres
  rw [Pl.mo8_no h] at e
  simp only [Prod.mk.injEq] at e
  obtain ⟨rfl,rfl,rfl⟩:=e
  exact specM_bad op v0 v1 sh da w hl0 hl1 h0 h1.sl h
 have e:=hres
 rw [Pl.mo8_yes h] at e
 obtain ⟨k0,k1,hok⟩:=h
 have hd:=(Pl.ok_max hok).2
 obtain ⟨b1,q1,e1,p1,p2,_⟩:=id h1
 have hk:op=1\/op=2\/op=3\/op=4\/op=5\/op=6\/op=7:=by omega
 rcases hk with rfl | rfl | rfl | rfl | rfl | rfl | rfl
 ·exact specM_1 v0 v1 sh da w hl0 hl1 h0 h1.sl hok 1 c S D (.inl ⟨rfl,e⟩)
 ·have e':((0:Int),[(sh.length:Int)],sh)=(c,S,D):=e
  simp only [Prod.mk.injEq] at e'
  obtain ⟨rfl,rfl,rfl⟩:=e'
  refine specM_26 2 45 #[v0] v0 v1 sh da w hl0 hl1 h0 h1.sl hok _ _ (.inl ⟨rfl,rfl,rfl⟩) (by omega) (fun w' hb=>?_)
  refine (l2Vector_any _ sh w' hl0 (h0.keep hb).rd).mono ?_
  rintro e w'' ⟨g0,g1,cp,rfl,_,_,hr,hb'⟩
  exact ⟨_,_,rfl,hr,hb'⟩
 ·have e':((0:Int),[(da.length:Int)],da)=(c,S,D):=e
  simp only [Prod.mk.injEq] at e'
  obtain ⟨rfl,rfl,rfl⟩:=e'
  refine specM_26 3 45 #[v1] v0 v1 sh da w hl0 hl1 h0 h1.sl hok _ _ (.inr (.inl ⟨rfl,rfl,rfl⟩)) (by omega) (fun w' hb=>?_)
  refine (l2Vector_any _ da w' hl1 (h1.keep hb).sl.rd).mono ?_
  rintro e w'' ⟨g0,g1,cp,rfl,_,_,hr,hb'⟩
  exact ⟨_,_,rfl,hr,hb'⟩
 ·have e':Pl.revM sh da=(c,S,D):=e
  have c0:c=0:=by
   unfold Pl.revM at e'
   split at e' <;> (simp only [Prod.mk.injEq] at e'; exact e'.1.symm)
  subst c0
  have s0:=h0'.resolve_left (by decide)
  obtain ⟨b0,q0,e0,o1,o2,_⟩:=id s0
  subst e0 e1
  exact specM_26 4 46 _ _ _ sh da w hl0 hl1 h0 h1.sl hok _ _ (.inr (.inr (.inl ⟨rfl,rfl,rfl⟩))) (by omega) (fun w' hb=>l2Rev_any b0 0 q0 b1 0 q1 sh da w' (s0.keep hb).sl.rd (h1.keep hb).sl.rd o1 o2 p1 p2 hok S D e')
 ·have e':Pl.flipM sh da=(c,S,D):=e
  have c0:c=0:=by
   unfold Pl.flipM at e'
   simp only [Prod.mk.injEq] at e'
   exact e'.1.symm
  subst c0
  have s0:=h0'.resolve_left (by decide)
  obtain ⟨b0,q0,e0,o1,o2,_⟩:=id s0
  subst e0 e1
  exact specM_26 5 47 _ _ _ sh da w hl0 hl1 h0 h1.sl hok _ _ (.inr (.inr (.inr (.inl ⟨rfl,rfl,rfl⟩)))) (by omega) (fun w' hb=>l2Flip_any b0 0 q0 b1 0 q1 sh da w' (s0.keep hb).sl.rd (h1.keep hb).sl.rd hok S D e')
 ·have e':Pl.gradeM sh da=(c,S,D):=e
  unfold Pl.gradeM at e'
  by_cases hsl:sh.length=1
  ·rw [if_pos hsl] at e'
   simp only [Prod.mk.injEq] at e'
   obtain ⟨rfl,rfl,rfl⟩:=e'
   have s0:=h0'.resolve_left (by decide)
   obtain ⟨b0,q0,e0,o1,o2,_⟩:=id s0
   subst e0 e1
   exact specM_26 6 49 _ _ _ sh da w hl0 hl1 h0 h1.sl hok _ _ (.inr (.inr (.inr (.inr ⟨rfl,rfl,rfl⟩)))) (fun _=>hsl) (fun w' hb=>l2Grade_any b0 0 q0 b1 0 q1 sh da w' (h1.keep hb).sl.rd hd)
  rw [if_neg hsl] at e'
  simp only [Prod.mk.injEq] at e'
  obtain ⟨rfl,rfl,rfl⟩:=e'
  exact specM_1 v0 v1 sh da w hl0 hl1 h0 h1.sl hok 6 _ _ _ (.inr (.inl ⟨rfl,hsl,rfl,rfl,rfl⟩))
 have e':Pl.countM sh da=(c,S,D):=e
 unfold Pl.countM at e'
 simp only [Prod.mk.injEq] at e'
 obtain ⟨rfl,rfl,hD⟩:=e'
 have hx:(Pl.axesS sh da).getD 0 0=if sh.length=0 then 1 else sh.getD 0 0:=by
  unfold Pl.axesS
  by_cases hz:sh.length=0
  ·rw [if_pos hz,if_pos hz]
   have:=Pl.ok_one hok hz
   simp [this]
  rw [if_neg hz,if_neg hz]
 rw [<- hD,hx]
 exact specM_1 v0 v1 sh da w hl0 hl1 h0 h1.sl hok 7 _ _ _ (.inr (.inr ⟨rfl,rfl,rfl,rfl⟩))
end Go.Proofs.YtacapaiadggemaaGreat
