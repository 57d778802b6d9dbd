import Derived.Test.YtbiiicbfpcfgdaaGreatDoorFnb
namespace Go.Proofs.YtbiiicbfpcfgdaaGreatDoor
open Go.RowKit
set_option maxRecDepth 100000
set_option maxHeartbeats 16000000
set_option linter.unusedVariables false
theorem uFnc21 {P:Prop}(h:P:=by obtain⟨_,e0,e1,e2,e3,e4,e5,e6,e7⟩:=E;simp only[Pl.n4] at e0 e1 e2 e3 e4 e5 e6 e7;simp[results,Tryz.results53,go_sem,e0,e1,e2,e3,e4,e5,e6,e7,agF,Pl.n4]):P:=h
theorem uFnc22 {P:Prop}(h:P:=by simp[go_sem]):P:=h
theorem tFnc21 {P:Prop}(h:P:=by
 go_region
 all_goals go_wp2_with fail
 all_goals (
  have E:=Fx.res (Fy.fx ‹_›) Pl.n4 Pl.n4 _ rfl
  refine bodyPost_ret (v:=.tuple #[.int .i64 (-1),agF Pl.n4,agF Pl.n4]) uFnc21 rfl ⟨by rw[HR.out],E.1.drew⟩)
 ):P:=h
theorem l3Func_e (l:List Pl.Tok) (ao:Option Addr) (cap:Nat) (hi:Nat) (w:World) (hl:l.length<=1048576) (h1:1<=hi) (h2:hi<=l.length) (hR:RdK w.heap.size w ao l) (hs:¬(Pl.isV l ((hi:Int)-1) ⟨#[47]⟩=true\/Pl.isV l ((hi:Int)-1) ⟨#[92]⟩=true)) :
  Calls Tryz.prog 53 #[.slice ao l.length cap,.int .i64 hi] w fun e w'=>e=.returned (.tuple #[.int .i64 (Pl.fnV l hi).1,agF (Pl.fnV l hi).2.1,agF (Pl.fnV l hi).2.2])/\Below w.heap.size w w':=by
 obtain⟨b,off,hbw,rfl,hc⟩:∃b off,b<w.heap.size/\ao=some ⟨b,off,none⟩/\∀(i:Nat) (t:Pl.Tok),l[i]? = some t->w.cell? ⟨b,off+i * 4,none⟩=some (.int .u8 t.k)/\w.cell? ⟨b,off+i * 4+1,none⟩=some (.string t.tx)/\w.cell? ⟨b,off+i * 4+2,none⟩=some (.int .i64 t.v)/\w.cell? ⟨b,off+i * 4+3,none⟩=some (.int .i64 t.pos):=by
  rcases hR with rfl|h
  ·simp at h2;omega
  exact h
 have HT:Hid (∀k,k<l.length->∀W,Below w.heap.size w W->W.cell? ⟨b,off+k * 4,none⟩=some (.int .u8 (Pl.tq l k).k)/\W.cell? ⟨b,off+k * 4+1,none⟩=some (.string (Pl.tq l k).tx)/\W.cell? ⟨b,off+k * 4+2,none⟩=some (.int .i64 (Pl.tq l k).v)/\W.cell? ⟨b,off+k * 4+3,none⟩=some (.int .i64 (Pl.tq l k).pos)):=fun k hk W hW=>by
  have:=hc k (Pl.tq l k) (by unfold Pl.tq;rw[List.getElem?_eq_getElem hk];rfl)
  exact⟨bcell hW hbw this.1,bcell hW hbw this.2.1,bcell hW hbw this.2.2.1,bcell hW hbw this.2.2.2⟩
 have KI:Hid (∀(i:Int) (text:ByteArray) (W:World),Below w.heap.size w W->-10<=i->i<=1048577->Calls Tryz.prog 31 #[.slice (some ⟨b,off,none⟩) l.length cap,.int .i64 i,.string text] W fun e w'=>e=.returned (.bool (Pl.isV l i text))/\Below W.heap.size W w'):=fun i text W hW h1 h2 =>
  (l3Is_any l _ cap i text W hl ⟨h1,h2⟩ ((hR.keep hW).up hW.size)).mono (by rintro e w' ⟨rfl,rfl⟩;exact⟨rfl,Below.refl _ _⟩)
 have KE:Hid (∀(t:Pl.Tok) (W:World),Calls Tryz.prog 80 #[.agg #[.int .u8 t.k,.string t.tx,.int .i64 t.v,.int .i64 t.pos]] W fun e w'=>e=.returned (.int .i64 (Pl.e2 t))/\Below W.heap.size W w'):=fun t W=>l3Each2_any t W
 clear hc hR
 have HF:Hid (∀X,Below (w.heap.size+3) (((w.alloc (.cells #[.int .i64 0,.int .i64 0,.int .i64 0,.string ⟨#[]⟩] 88)).alloc (.cells #[.int .i64 0,.int .i64 0,.int .i64 0,.string ⟨#[]⟩] 88)).alloc (.cells #[.int .i64 0,.int .i64 0,.int .i64 0,.string ⟨#[]⟩] 88)) X->Fx w X w.heap.size):=fun X hb=>by
  have z:=hb.size
  simp at z
  exact⟨(((Below.refl _ _).alloc (Nat.le_refl _) _).alloc sI _ |>.alloc (by simp;omega) _).trans (hb.mono oM),by omega,bcell hb oM uFnc22,bcell hb oM uFnc22,bcell hb oM uFnc22,bcell hb oM uFnc22,bcell hb oM uFnc22,bcell hb oM uFnc22,bcell hb oM uFnc22,bcell hb oM uFnc22,bcell hb oM uFnc22,bcell hb oM uFnc22,bcell hb oM uFnc22,bcell hb oM uFnc22,fun j=>bfroz hb oM uFnc22,fun j=>bfroz hb oM uFnc22⟩
 have H0:Hid (∀o1 o2 o3,Below w.heap.size w (((w.alloc o1).alloc o2).alloc o3)):=fun o1 o2 o3=>((Below.refl _ _).alloc (Nat.le_refl _) _).alloc sI _ |>.alloc (by simp;omega) _
 obtain⟨hs1,hs2⟩:Pl.isV l ((hi:Int)-1) ⟨#[47]⟩=false/\Pl.isV l ((hi:Int)-1) ⟨#[92]⟩=false:=by simpa using hs
 obtain⟨k,rfl⟩:∃k,hi=k+1:=⟨hi-1,by omega⟩
 rw[show (((k+1:Nat):Int)-1)=(k:Int) by omega] at hs hs1 hs2
 have K1:=zH (KI.out ((k:Int)) ⟨#[47]⟩)
 have K2:=zH (KI.out ((k:Int)) ⟨#[92]⟩)
 rw[hs1] at K1
 rw[hs2] at K2
 have HU:Hid (Pl.fnV l (k+1)=if Pl.isV l ((k:Int)+1-2) ⟨#[46]⟩=true then (if k+1<3\/Pl.e2 (Pl.tq l (k+1-3))=0\/Pl.e2 (Pl.tq l k)=0 then (-1,Pl.n4,Pl.n4) else (((k+1:Nat):Int)-3,Pl.n4,(8,Pl.e2 (Pl.tq l (k+1-3)),Pl.e2 (Pl.tq l k),⟨#[]⟩))) else if Pl.isV l ((k:Int)+1-2) ⟨#[64]⟩=true then (if Pl.e2 (Pl.tq l k)=0 then (-1,Pl.n4,Pl.n4) else ((k:Int)+1-2,Pl.n4,(7,Pl.e2 (Pl.tq l k),0,⟨#[]⟩))) else ((k:Int),Pl.p4 (Pl.pl1 (Pl.tq l k)),Pl.p4 (Pl.pl2 (Pl.tq l k)))):=by
  show _=_
  unfold Pl.fnV
  rw[show (((k+1:Nat):Int)-1)=(k:Int) by omega,if_neg hs,show (((k+1:Nat):Int)-2)=(k:Int)+1-2 by omega,Nat.add_sub_cancel]
 have hwk:IntKind.i64.wrap (k:Int)=(k:Int):=by rw[IntKind.wrap_i64];omega
 have hwk2:=hwk
 have HK:=HT.out k oM
 have K3:=zH (KI.out ((k:Int)+1-2) ⟨#[46]⟩)
 have K4:=zH (KI.out ((k:Int)+1-2) ⟨#[64]⟩)
 have KT:=zH (KE.out (Pl.tq l k))
 have KP1:=zH (fun W=>l3Plain1_any (Pl.tq l k) W)
 have KP2:=zH (fun W=>l3Plain2_any (Pl.tq l k) W)
 have hDk:Pl.isV l ((k:Int)+1-2) ⟨#[46]⟩=true->1<=k:=fun h=>by
  by_cases hk:1<=k
  ·exact hk
  rw[Pl.isV_neg oM] at h;cases h
 have hMk:Pl.isV l ((k:Int)+1-2) ⟨#[64]⟩=true->1<=k:=fun h=>by
  by_cases hk:1<=k
  ·exact hk
  rw[Pl.isV_neg oM] at h;cases h
 generalize Pl.isV l ((k:Int)+1-2) ⟨#[46]⟩=D at *
 generalize Pl.isV l ((k:Int)+1-2) ⟨#[64]⟩=M at *
 cases D
 ·rw[if_neg sI] at HU
  have M4:=K4
  cases M
  ·have HR:=zH (show Pl.fnV l (k+1)=((k:Int),Pl.p4 (Pl.pl1 (Pl.tq l k)),Pl.p4 (Pl.pl2 (Pl.tq l k))) by rw[HU.out,if_neg sI])
   clear HU
   generalize Pl.fnV l (k+1)=R at *
   generalize Pl.tq l k=t at *
   generalize l.length=n at *
   clear hs hs1 hs2
   go_enter Tryz.func53,Tryz.ntmps53
   go_wp2_with fail
   refine(K1.out _ (H0.out _ _ _) oM oM).mono ?_
   rintro e w1 ⟨rfl,hb1⟩
   have F1:=zH (HF.out _ (hb1.mono sI))
   clear hb1
   go_wp2_with fail
   refine(K2.out _ F1.out.b oM oM).mono ?_
   rintro e w2 ⟨rfl,hb2⟩
   have F2:=zH (F1.out.keep hb2)
   clear hb2 F1
   obtain⟨c0,c1,c2,c3⟩:=HK w2 F2.out.b
   have Y2:=zH (F2.out.put t)
   clear F2
   go_wp2_with fail
   refine(K3.out _ Y2.out.fx.b oM oM).mono ?_
   rintro e w3 ⟨rfl,hb3⟩
   have Y3:=zH (Y2.out.keep hb3)
   clear hb3 Y2 c0 c1 c2 c3
   go_wp2_with fail
   refine(K4.out _ Y3.out.fx.b oM oM).mono ?_
   rintro e w4 ⟨rfl,hb4⟩
   have Y4:=zH (Y3.out.keep hb4)
   clear hb4 Y3
   obtain⟨⟨_,_,a0,a1,a2,a3,b0,b1,b2,b3,n0,n1,n2,n3,fa,fb⟩,_,_,c0,c1,c2,c3⟩:=Y4.out
   have CF:Hid (∀W W':World,Below W.heap.size W W'->Fy w W w.heap.size w2.heap.size t->Fy w W' w.heap.size w2.heap.size t):=fun W W' hb h=>h.keep hb
   have YD:=Y4.out.drew
   clear KI KE KT HF H0 K1 K2 K3 K4 M4 HT HK Y4
   go_wp2_with fail
   go_region_with (first | (go_at_call 81;with_reducible refine(KP1.out _).mono ?_;rintro e w9 ⟨rfl,hb9⟩;have Y9:=CF.out _ _ hb9 (by assumption);obtain⟨⟨_,_,a0,a1,a2,a3,b0,b1,b2,b3,n0,n1,n2,n3,fa,fb⟩,_,_,c0,c1,c2,c3⟩:=id Y9) | (go_at_call 81;with_reducible refine(KP2.out _).mono ?_;rintro e w9 ⟨rfl,hb9⟩;have Y9:=CF.out _ _ hb9 (by assumption);obtain⟨⟨_,_,a0,a1,a2,a3,b0,b1,b2,b3,n0,n1,n2,n3,fa,fb⟩,_,_,c0,c1,c2,c3⟩:=id Y9))
   all_goals go_wp2_with fail
   all_goals (
    have E:=Fx.res (Fy.fx ‹_›) (Pl.p4 (Pl.pl1 t)) (Pl.p4 (Pl.pl2 t)) _ rfl
    refine bodyPost_ret (v:=.tuple #[.int .i64 (k:Int),agF (Pl.p4 (Pl.pl1 t)),agF (Pl.p4 (Pl.pl2 t))]) (by obtain⟨_,e0,e1,e2,e3,e4,e5,e6,e7⟩:=E;simp only[Pl.p4] at e0 e1 e2 e3 e4 e5 e6 e7;simp[results,Tryz.results53,go_sem,e0,e1,e2,e3,e4,e5,e6,e7,agF,Pl.p4]) rfl ⟨by rw[HR.out],E.1⟩)
  obtain⟨j,rfl⟩:∃j,k=j+1:=⟨k-1,by have:=hMk rfl;omega⟩
  rw[if_pos rfl] at HU
  rw[show (((j+1:Nat):Int)+1-2)=(j:Int)+1+1-2 by omega] at K3 K4
  rw[show ((j+1:Nat):Int)=(j:Int)+1 by omega] at K1 K2
  by_cases hz:Pl.e2 (Pl.tq l (j+1))=0
  ·have HR:=zH (show Pl.fnV l (j+1+1)=(-1,Pl.n4,Pl.n4) by rw[HU.out,if_pos hz])
   have hzb:(Pl.e2 (Pl.tq l (j+1)) == 0)=true:=by rw[hz];rfl
   clear HU hz KP1 KP2
   generalize Pl.fnV l (j+1+1)=R at *
   generalize hEt:Pl.e2 (Pl.tq l (j+1))=et at *
   generalize Pl.tq l (j+1)=t at *
   generalize l.length=n at *
   clear hs hs1 hs2
   go_enter Tryz.func53,Tryz.ntmps53
   go_wp2_with fail
   refine(K1.out _ (H0.out _ _ _) oM oM).mono ?_
   rintro e w1 ⟨rfl,hb1⟩
   have F1:=zH (HF.out _ (hb1.mono sI))
   clear hb1
   go_wp2_with fail
   refine(K2.out _ F1.out.b oM oM).mono ?_
   rintro e w2 ⟨rfl,hb2⟩
   have F2:=zH (F1.out.keep hb2)
   clear hb2 F1
   obtain⟨c0,c1,c2,c3⟩:=HK w2 F2.out.b
   have Y2:=zH (F2.out.put t)
   clear F2
   go_wp2_with fail
   refine(K3.out _ Y2.out.fx.b oM oM).mono ?_
   rintro e w3 ⟨rfl,hb3⟩
   have Y3:=zH (Y2.out.keep hb3)
   clear hb3 Y2 c0 c1 c2 c3
   go_wp2_with fail
   refine(K4.out _ Y3.out.fx.b oM oM).mono ?_
   rintro e w4 ⟨rfl,hb4⟩
   have Y4:=zH (Y3.out.keep hb4)
   clear hb4 Y3
   obtain⟨⟨_,_,a0,a1,a2,a3,b0,b1,b2,b3,n0,n1,n2,n3,fa,fb⟩,_,_,c0,c1,c2,c3⟩:=Y4.out
   go_wp2_with fail
   refine(KT.out _).mono ?_
   rintro e w5 ⟨rfl,hb5⟩
   have Y5:=zH (Y4.out.keep hb5)
   clear hb5 Y4 a0 a1 a2 a3 b0 b1 b2 b3 n0 n1 n2 n3 fa fb c0 c1 c2 c3
   obtain⟨⟨_,_,a0,a1,a2,a3,b0,b1,b2,b3,n0,n1,n2,n3,fa,fb⟩,_,_,c0,c1,c2,c3⟩:=Y5.out
   have CF:Hid (∀W W':World,Below W.heap.size W W'->Fy w W w.heap.size w2.heap.size t->Fy w W' w.heap.size w2.heap.size t):=fun W W' hb h=>h.keep hb
   have YD:=Y5.out
   clear KI KE HF H0 K1 K2 K3 K4 M4 HT HK Y5
   go_wp2_with fail
   exact tFnc21
  have HR:=zH (show Pl.fnV l (j+1+1)=((j:Int),Pl.n4,(7,Pl.e2 (Pl.tq l (j+1)),0,⟨#[]⟩)) by rw[HU.out,if_neg hz,show (((j+1:Nat):Int)+1-2)=(j:Int) by omega])
  have hzb:(Pl.e2 (Pl.tq l (j+1)) == 0)=false:=by simpa using hz
  clear HU hz KP1 KP2
  generalize Pl.fnV l (j+1+1)=R at *
  generalize hEt:Pl.e2 (Pl.tq l (j+1))=et at *
  generalize Pl.tq l (j+1)=t at *
  generalize l.length=n at *
  clear hs hs1 hs2
  go_enter Tryz.func53,Tryz.ntmps53
  go_wp2_with fail
  refine(K1.out _ (H0.out _ _ _) oM oM).mono ?_
  rintro e w1 ⟨rfl,hb1⟩
  have F1:=zH (HF.out _ (hb1.mono sI))
  clear hb1
  go_wp2_with fail
  refine(K2.out _ F1.out.b oM oM).mono ?_
  rintro e w2 ⟨rfl,hb2⟩
  have F2:=zH (F1.out.keep hb2)
  clear hb2 F1
  obtain⟨c0,c1,c2,c3⟩:=HK w2 F2.out.b
  have Y2:=zH (F2.out.put t)
  clear F2
  go_wp2_with fail
  refine(K3.out _ Y2.out.fx.b oM oM).mono ?_
  rintro e w3 ⟨rfl,hb3⟩
  have Y3:=zH (Y2.out.keep hb3)
  clear hb3 Y2 c0 c1 c2 c3
  go_wp2_with fail
  refine(K4.out _ Y3.out.fx.b oM oM).mono ?_
  rintro e w4 ⟨rfl,hb4⟩
  have Y4:=zH (Y3.out.keep hb4)
  clear hb4 Y3
  obtain⟨⟨_,_,a0,a1,a2,a3,b0,b1,b2,b3,n0,n1,n2,n3,fa,fb⟩,_,_,c0,c1,c2,c3⟩:=Y4.out
  go_wp2_with fail
  refine(KT.out _).mono ?_
  rintro e w5 ⟨rfl,hb5⟩
  have Y5:=zH (Y4.out.keep hb5)
  clear hb5 Y4 a0 a1 a2 a3 b0 b1 b2 b3 n0 n1 n2 n3 fa fb c0 c1 c2 c3
  obtain⟨⟨_,_,a0,a1,a2,a3,b0,b1,b2,b3,n0,n1,n2,n3,fa,fb⟩,_,_,c0,c1,c2,c3⟩:=Y5.out
  have CF:Hid (∀W W':World,Below W.heap.size W W'->Fy w W w.heap.size w2.heap.size t->Fy w W' w.heap.size w2.heap.size t):=fun W W' hb h=>h.keep hb
  have YD:=Y5.out.drew
  clear KI KE HF H0 K1 K2 K3 K4 M4 HT HK Y5
  go_wp2_with fail
  go_region_with (go_at_call 80;with_reducible refine(KT.out _).mono ?_;rintro e w9 ⟨rfl,hb9⟩;have Y9:=CF.out _ _ hb9 (by assumption);obtain⟨⟨_,_,a0,a1,a2,a3,b0,b1,b2,b3,n0,n1,n2,n3,fa,fb⟩,_,_,c0,c1,c2,c3⟩:=id Y9)
  all_goals have hwk2:IntKind.i64.wrap (j:Int)=(j:Int):=by rw[IntKind.wrap_i64];omega
  all_goals have hwk:IntKind.i64.wrap ((j:Int)+1+1-2)=(j:Int):=by rw[IntKind.wrap_i64];omega
  all_goals go_wp2_with fail
  all_goals (
   have E:=Fx.res (Fy.fx ‹_›) Pl.n4 (7,et,0,⟨#[]⟩) _ rfl
   refine bodyPost_ret (v:=.tuple #[.int .i64 (j:Int),agF Pl.n4,agF (7,et,0,⟨#[]⟩)]) (by obtain⟨_,e0,e1,e2,e3,e4,e5,e6,e7⟩:=E;simp only[Pl.n4] at e0 e1 e2 e3 e4 e5 e6 e7;simp[results,Tryz.results53,go_sem,e0,e1,e2,e3,e4,e5,e6,e7,hwk,agF,Pl.n4]) rfl ⟨by rw[HR.out],E.1⟩)
 rw[if_pos rfl] at HU
 have hk1:=hDk rfl
 by_cases hk2:k=1
 ·subst hk2
  rw[show (((1:Nat):Int)+1-2)=0 by omega] at K3 K4
  have HR:=zH (show Pl.fnV l (1+1)=(-1,Pl.n4,Pl.n4) by rw[HU.out,if_pos (.inl oM)])
  clear HU KP1 KP2
  generalize Pl.fnV l (1+1)=R at *
  generalize Pl.tq l 1=t at *
  generalize l.length=n at *
  clear hs hs1 hs2
  go_enter Tryz.func53,Tryz.ntmps53
  go_wp2_with fail
  refine(K1.out _ (H0.out _ _ _) oM oM).mono ?_
  rintro e w1 ⟨rfl,hb1⟩
  have F1:=zH (HF.out _ (hb1.mono sI))
  clear hb1
  go_wp2_with fail
  refine(K2.out _ F1.out.b oM oM).mono ?_
  rintro e w2 ⟨rfl,hb2⟩
  have F2:=zH (F1.out.keep hb2)
  clear hb2 F1
  obtain⟨c0,c1,c2,c3⟩:=HK w2 F2.out.b
  have Y2:=zH (F2.out.put t)
  clear F2
  go_wp2_with fail
  refine(K3.out _ Y2.out.fx.b oM oM).mono ?_
  rintro e w3 ⟨rfl,hb3⟩
  have Y3:=zH (Y2.out.keep hb3)
  clear hb3 Y2 c0 c1 c2 c3
  obtain⟨⟨_,_,a0,a1,a2,a3,b0,b1,b2,b3,n0,n1,n2,n3,fa,fb⟩,_,_,c0,c1,c2,c3⟩:=Y3.out
  have YD:=Y3.out
  clear KI KE HF H0 K1 K2 K3 K4 HT HK Y3
  go_wp2_with fail
  exact tFnc21
 obtain⟨i,rfl⟩:∃i,k=i+1+1:=⟨k-2,by omega⟩
 rw[show (((i+1+1:Nat):Int)+1-2)=(i:Int)+1+1+1-2 by omega] at K3 K4
 rw[show ((i+1+1:Nat):Int)=(i:Int)+1+1 by omega] at K1 K2
 have HI:=HT.out i oM
 have KJ:=zH (KE.out (Pl.tq l i))
 rw[show i+1+1+1-3=i by omega,show (((i+1+1+1:Nat):Int)-3)=(i:Int) by omega] at HU
 have hwk2:IntKind.i64.wrap (i:Int)=(i:Int):=by rw[IntKind.wrap_i64];omega
 have hwk:IntKind.i64.wrap ((i:Int)+1+1+1-3)=(i:Int):=by rw[IntKind.wrap_i64];omega
 by_cases hc:Pl.e2 (Pl.tq l i)=0
 ·have HR:=zH (show Pl.fnV l (i+1+1+1)=(-1,Pl.n4,Pl.n4) by rw[HU.out,if_pos (.inr (.inl hc))])
  have hcb:(Pl.e2 (Pl.tq l i) == 0)=true:=by rw[hc];rfl
  clear hc HU KP1 KP2
  generalize Pl.fnV l (i+1+1+1)=R at *
  generalize hEt:Pl.e2 (Pl.tq l (i+1+1))=et at *
  generalize hEc:Pl.e2 (Pl.tq l i)=ec at *
  generalize Pl.tq l (i+1+1)=t at *
  generalize Pl.tq l i=ti at *
  generalize l.length=n at *
  clear hs hs1 hs2
  go_enter Tryz.func53,Tryz.ntmps53
  go_wp2_with fail
  refine(K1.out _ (H0.out _ _ _) oM oM).mono ?_
  rintro e w1 ⟨rfl,hb1⟩
  have F1:=zH (HF.out _ (hb1.mono sI))
  clear hb1
  go_wp2_with fail
  refine(K2.out _ F1.out.b oM oM).mono ?_
  rintro e w2 ⟨rfl,hb2⟩
  have F2:=zH (F1.out.keep hb2)
  clear hb2 F1
  obtain⟨c0,c1,c2,c3⟩:=HK w2 F2.out.b
  have Y2:=zH (F2.out.put t)
  clear F2
  go_wp2_with fail
  refine(K3.out _ Y2.out.fx.b oM oM).mono ?_
  rintro e w3 ⟨rfl,hb3⟩
  have Y3:=zH (Y2.out.keep hb3)
  clear hb3 Y2 c0 c1 c2 c3
  obtain⟨d0,d1,d2,d3⟩:=HI w3 Y3.out.fx.b
  obtain⟨⟨_,_,a0,a1,a2,a3,b0,b1,b2,b3,n0,n1,n2,n3,fa,fb⟩,_,_,c0,c1,c2,c3⟩:=Y3.out
  go_wp2_with fail
  refine(KJ.out _).mono ?_
  rintro e w4 ⟨rfl,hb4⟩
  have Y4:=zH (Y3.out.keep hb4)
  clear hb4 Y3 a0 a1 a2 a3 b0 b1 b2 b3 n0 n1 n2 n3 fa fb c0 c1 c2 c3 d0 d1 d2 d3
  obtain⟨⟨_,_,a0,a1,a2,a3,b0,b1,b2,b3,n0,n1,n2,n3,fa,fb⟩,_,_,c0,c1,c2,c3⟩:=Y4.out
  have YD:=Y4.out
  clear KI KE HF H0 K1 K2 K3 K4 HT HK HI Y4
  go_wp2_with fail
  exact tFnc21
 have hcb:(Pl.e2 (Pl.tq l i) == 0)=false:=by simpa using hc
 by_cases hz:Pl.e2 (Pl.tq l (i+1+1))=0
 ·have HR:=zH (show Pl.fnV l (i+1+1+1)=(-1,Pl.n4,Pl.n4) by rw[HU.out,if_pos (.inr (.inr hz))])
  have hzb:(Pl.e2 (Pl.tq l (i+1+1)) == 0)=true:=by rw[hz];rfl
  clear hc hz HU KP1 KP2
  generalize Pl.fnV l (i+1+1+1)=R at *
  generalize hEt:Pl.e2 (Pl.tq l (i+1+1))=et at *
  generalize hEc:Pl.e2 (Pl.tq l i)=ec at *
  generalize Pl.tq l (i+1+1)=t at *
  generalize Pl.tq l i=ti at *
  generalize l.length=n at *
  clear hs hs1 hs2
  go_enter Tryz.func53,Tryz.ntmps53
  go_wp2_with fail
  refine(K1.out _ (H0.out _ _ _) oM oM).mono ?_
  rintro e w1 ⟨rfl,hb1⟩
  have F1:=zH (HF.out _ (hb1.mono sI))
  clear hb1
  go_wp2_with fail
  refine(K2.out _ F1.out.b oM oM).mono ?_
  rintro e w2 ⟨rfl,hb2⟩
  have F2:=zH (F1.out.keep hb2)
  clear hb2 F1
  obtain⟨c0,c1,c2,c3⟩:=HK w2 F2.out.b
  have Y2:=zH (F2.out.put t)
  clear F2
  go_wp2_with fail
  refine(K3.out _ Y2.out.fx.b oM oM).mono ?_
  rintro e w3 ⟨rfl,hb3⟩
  have Y3:=zH (Y2.out.keep hb3)
  clear hb3 Y2 c0 c1 c2 c3
  obtain⟨d0,d1,d2,d3⟩:=HI w3 Y3.out.fx.b
  obtain⟨⟨_,_,a0,a1,a2,a3,b0,b1,b2,b3,n0,n1,n2,n3,fa,fb⟩,_,_,c0,c1,c2,c3⟩:=Y3.out
  go_wp2_with fail
  refine(KJ.out _).mono ?_
  rintro e w4 ⟨rfl,hb4⟩
  have Y4:=zH (Y3.out.keep hb4)
  clear hb4 Y3 a0 a1 a2 a3 b0 b1 b2 b3 n0 n1 n2 n3 fa fb c0 c1 c2 c3 d0 d1 d2 d3
  obtain⟨⟨_,_,a0,a1,a2,a3,b0,b1,b2,b3,n0,n1,n2,n3,fa,fb⟩,_,_,c0,c1,c2,c3⟩:=Y4.out
  go_wp2_with fail
  refine(KT.out _).mono ?_
  rintro e w5 ⟨rfl,hb5⟩
  have Y5:=zH (Y4.out.keep hb5)
  clear hb5 Y4 a0 a1 a2 a3 b0 b1 b2 b3 n0 n1 n2 n3 fa fb c0 c1 c2 c3
  obtain⟨⟨_,_,a0,a1,a2,a3,b0,b1,b2,b3,n0,n1,n2,n3,fa,fb⟩,_,_,c0,c1,c2,c3⟩:=Y5.out
  obtain⟨d0,d1,d2,d3⟩:=HI w5 Y5.out.fx.b
  have CF:Hid (∀W W':World,Below W.heap.size W W'->Fy w W w.heap.size w2.heap.size t->Fy w W' w.heap.size w2.heap.size t):=fun W W' hb h=>h.keep hb
  have HID:=zH HI
  have YD:=Y5.out
  clear KI KE HF H0 K1 K2 K3 K4 HT HK Y5
  go_wp2_with fail
  clear HI
  exact tFnc21
 have HR:=zH (show Pl.fnV l (i+1+1+1)=((i:Int),Pl.n4,(8,Pl.e2 (Pl.tq l i),Pl.e2 (Pl.tq l (i+1+1)),⟨#[]⟩)) by rw[HU.out,if_neg (by rintro (h | h | h);omega;exact hc h;exact hz h)])
 have hzb:(Pl.e2 (Pl.tq l (i+1+1)) == 0)=false:=by simpa using hz
 clear hc hz HU KP1 KP2
 generalize Pl.fnV l (i+1+1+1)=R at *
 generalize hEt:Pl.e2 (Pl.tq l (i+1+1))=et at *
 generalize hEc:Pl.e2 (Pl.tq l i)=ec at *
 generalize Pl.tq l (i+1+1)=t at *
 generalize Pl.tq l i=ti at *
 generalize l.length=n at *
 clear hs hs1 hs2
 go_enter Tryz.func53,Tryz.ntmps53
 go_wp2_with fail
 refine(K1.out _ (H0.out _ _ _) oM oM).mono ?_
 rintro e w1 ⟨rfl,hb1⟩
 have F1:=zH (HF.out _ (hb1.mono sI))
 clear hb1
 go_wp2_with fail
 refine(K2.out _ F1.out.b oM oM).mono ?_
 rintro e w2 ⟨rfl,hb2⟩
 have F2:=zH (F1.out.keep hb2)
 clear hb2 F1
 obtain⟨c0,c1,c2,c3⟩:=HK w2 F2.out.b
 have Y2:=zH (F2.out.put t)
 clear F2
 go_wp2_with fail
 refine(K3.out _ Y2.out.fx.b oM oM).mono ?_
 rintro e w3 ⟨rfl,hb3⟩
 have Y3:=zH (Y2.out.keep hb3)
 clear hb3 Y2 c0 c1 c2 c3
 obtain⟨d0,d1,d2,d3⟩:=HI w3 Y3.out.fx.b
 obtain⟨⟨_,_,a0,a1,a2,a3,b0,b1,b2,b3,n0,n1,n2,n3,fa,fb⟩,_,_,c0,c1,c2,c3⟩:=Y3.out
 go_wp2_with fail
 refine(KJ.out _).mono ?_
 rintro e w4 ⟨rfl,hb4⟩
 have Y4:=zH (Y3.out.keep hb4)
 clear hb4 Y3 a0 a1 a2 a3 b0 b1 b2 b3 n0 n1 n2 n3 fa fb c0 c1 c2 c3 d0 d1 d2 d3
 obtain⟨⟨_,_,a0,a1,a2,a3,b0,b1,b2,b3,n0,n1,n2,n3,fa,fb⟩,_,_,c0,c1,c2,c3⟩:=Y4.out
 go_wp2_with fail
 refine(KT.out _).mono ?_
 rintro e w5 ⟨rfl,hb5⟩
 have Y5:=zH (Y4.out.keep hb5)
 clear hb5 Y4 a0 a1 a2 a3 b0 b1 b2 b3 n0 n1 n2 n3 fa fb c0 c1 c2 c3
 obtain⟨⟨_,_,a0,a1,a2,a3,b0,b1,b2,b3,n0,n1,n2,n3,fa,fb⟩,_,_,c0,c1,c2,c3⟩:=Y5.out
 obtain⟨d0,d1,d2,d3⟩:=HI w5 Y5.out.fx.b
 have CF:Hid (∀W W':World,Below W.heap.size W W'->Fy w W w.heap.size w2.heap.size t->Fy w W' w.heap.size w2.heap.size t):=fun W W' hb h=>h.keep hb
 have HID:=zH HI
 have SD:Hid (Ft w w5.drew w.heap.size w2.heap.size t):=⟨Y5.out.drew.fx.fs,Y5.out.ge,Y5.out.drew.c0,Y5.out.drew.c1,Y5.out.drew.c2,Y5.out.drew.c3⟩
 have FD:=zH Y5.out.drew
 clear a0 a1 a2 a3 b0 b1 b2 b3 n0 n1 n2 n3 fa fb c0 c1 c2 c3 d0 d1 d2 d3 HI KI KE HF H0 K1 K2 K3 K4 HT HK Y5 CF
 go_wp2_with fail
 refine wp_region_held (S:=fun W=>Ft w W w.heap.size w2.heap.size t) kR ?_
 change wpAnyH _ _ _ _ _ _ _ _ (World.drew _)
 generalize World.drew w5=wd at SD FD ⊢
 refine tz 0 (.int .i64 ((i:Int)+1+1+1)) rfl SD.out (fun W hW=>exec_moveq (.tmp 1) _ rfl kR W) ?_
 refine tz 1 (.int .i64 (i:Int)) rfl SD.out (fun W hW=>exec_sub3 (.tmp 79) _ ((i:Int)+1+1+1) 3 _ rfl kR kR hwk W) ?_
 refine tz 2 (agF Pl.n4) rfl SD.out (fun W hW=>exec_load79 (.tmp 7) (w.heap.size+1+1) 0 0 0 ⟨#[]⟩ W rfl kR hW.fs.n0 hW.fs.n1 hW.fs.n2 hW.fs.n3) ?_
 refine tz 3 (.slice (some ⟨b,off,none⟩) n cap) rfl SD.out (fun W hW=>exec_moveq (.tmp 0) _ rfl kR W) ?_
 refine tz 4 (.int .i64 ((i:Int)+1+1+1)) rfl SD.out (fun W hW=>exec_moveq (.tmp 1) _ rfl kR W) ?_
 refine tz 5 (.int .i64 (i:Int)) rfl SD.out (fun W hW=>exec_sub3 (.tmp 83) _ ((i:Int)+1+1+1) 3 _ rfl kR kR hwk W) ?_
 refine tz 6 (.pointer (some ⟨b,off+i * 4,none⟩)) rfl SD.out (fun W hW=>exec_idx28 (.tmp 82) (.tmp 84) b off n cap i rfl kR kR oM W) ?_
 refine tz 7 ((.agg #[.int .u8 ti.k,.string ti.tx,.int .i64 ti.v,.int .i64 ti.pos])) rfl SD.out (fun W hW=>exec_load31 (.tmp 85) b (off+i * 4) ti W rfl kR (HID.out W hW.fs.b).1 (HID.out W hW.fs.b).2.1 (HID.out W hW.fs.b).2.2.1 (HID.out W hW.fs.b).2.2.2) ?_
 refine tz 9 ((.agg #[.int .u8 t.k,.string t.tx,.int .i64 t.v,.int .i64 t.pos])) rfl SD.out (fun W hW=>exec_load31 (.tmp 9) w2.heap.size 0 t W rfl kR hW.c0 hW.c1 hW.c2 hW.c3) ?_
 refine step_callq (i:=8) kR rfl rfl 80 _ (exec_call1 80 enter60 (.tmp 86) (.agg #[.int .u8 ti.k,.string ti.tx,.int .i64 ti.v,.int .i64 ti.pos]) _ rfl kR wd) ?_
 refine(KJ.out _).mono ?_
 rintro e w8 ⟨rfl,hb8⟩
 have F8:=zH (FD.out.keep hb8)
 clear hb8 FD SD
 refine⟨_,rfl,⟨F8.out.fx.fs,F8.out.ge,F8.out.c0,F8.out.c1,F8.out.c2,F8.out.c3⟩,?_⟩
 refine step_callq (i:=10) kR rfl rfl 80 _ (exec_call1 80 enter60 (.tmp 88) (.agg #[.int .u8 t.k,.string t.tx,.int .i64 t.v,.int .i64 t.pos]) _ rfl kR w8) ?_
 refine(KT.out _).mono ?_
 rintro e w9 ⟨rfl,hb9⟩
 have F9:=zH (F8.out.keep hb9)
 clear hb9 F8
 have S9:Hid (Ft w w9 w.heap.size w2.heap.size t):=⟨F9.out.fx.fs,F9.out.ge,F9.out.c0,F9.out.c1,F9.out.c2,F9.out.c3⟩
 refine⟨_,rfl,S9.out,?_⟩
 refine tz 11 (.agg #[.int .i64 8,.int .i64 ec,.int .i64 et,.string ⟨#[]⟩]) rfl S9.out (fun W hW=>exec_build79b (.const (.int .i64 8)) (.tmp 87) (.tmp 89) 8 ec et rfl rfl kR kR W) ?_
 refine step_valq (i:=12) kR rfl rfl (.int .i64 (i:Int)) (exec_assignq (.tmp 80) (.int .i64 (i:Int)) rfl kR w9) S9.out ?_
 refine step_skip (i:=13) kR rfl rfl (exec_store79 (.tmp 5) (.tmp 81) w.heap.size 0 0 0 ⟨#[]⟩ _ _ _ _ w9 rfl kR kR F9.out.fx.a0 F9.out.fx.a1 F9.out.fx.a2 F9.out.fx.a3 F9.out.fx.fa) (S9.out.set4 _ (.inl rfl) _ _ _ _) ?_
 obtain⟨x0,x1,x2,x3,xf⟩:=F9.out.fx.half (.int .i64 0) (.int .i64 0) (.int .i64 0) (.string ⟨#[]⟩) _ rfl
 refine step_skip (i:=14) kR rfl rfl (exec_store79 (.tmp 6) (.tmp 90) (w.heap.size+1) 8 ec et ⟨#[]⟩ _ _ _ _ _ rfl kR kR x0 x1 x2 x3 xf) ((S9.out.set4 _ (.inl rfl) _ _ _ _).set4 _ (.inr rfl) _ _ _ _) ?_
 refine wpAnyH_done kR ?_ _
 have FF:=F9.out
 clear x0 x1 x2 x3 xf S9
 all_goals go_wp2_with fail
 all_goals (
  have E:=Fx.res (Fy.fx ‹_›) Pl.n4 (8,ec,et,⟨#[]⟩) _ rfl
  refine bodyPost_ret (v:=.tuple #[.int .i64 (i:Int),agF Pl.n4,agF (8,ec,et,⟨#[]⟩)]) uFnc21 rfl ⟨by rw[HR.out],E.1⟩)
end Go.Proofs.YtbiiicbfpcfgdaaGreatDoor
