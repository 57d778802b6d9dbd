import Derived.Test.YtbiiicbfpcfgdaaGreatDoorFnb
namespace Go.Proofs.YtbiiicbfpcfgdaaGreatDoor
open Go.RowKit
set_option maxRecDepth 100000
set_option maxHeartbeats 16000000
set_option linter.unusedVariables false
theorem uFnc11 {P:Prop}(h:P:=by obtain⟨_,e0,e1,e2,e3,e4,e5,e6,e7⟩:=E;simp only[Pl.n4] at e0 e1 e2 e3 e4 e5 e6 e7;simp[results,Tryz.results53,go_sem,e0,e1,e2,e3,e4,e5,e6,e7,agF,Pl.n4]):P:=h
theorem uFnc12 {P:Prop}(h:P:=by simp[go_sem]):P:=h
theorem l3Func_s (l:List Pl.Tok) (ao:Option Addr) (cap:Nat) (hi:Nat) (w:World) (hl:l.length<=1048576) (h1:1<=hi) (h2:hi<=l.length) (hR:RdK w.heap.size w ao l) (hs:Pl.isV l ((hi:Int)-1) ⟨#[47]⟩=true\/Pl.isV l ((hi:Int)-1) ⟨#[92]⟩=true) :
  Calls Tryz.prog 53 #[.slice ao l.length cap,.int .i64 hi] w fun e w'=>e=.returned (.tuple #[.int .i64 (Pl.fnV l hi).1,agF (Pl.fnV l hi).2.1,agF (Pl.fnV l hi).2.2])/\Below w.heap.size w w':=by
 obtain⟨b,off,hbw,rfl,hc⟩:∃b off,b<w.heap.size/\ao=some ⟨b,off,none⟩/\∀(i:Nat) (t:Pl.Tok),l[i]? = some t->w.cell? ⟨b,off+i * 4,none⟩=some (.int .u8 t.k)/\w.cell? ⟨b,off+i * 4+1,none⟩=some (.string t.tx)/\w.cell? ⟨b,off+i * 4+2,none⟩=some (.int .i64 t.v)/\w.cell? ⟨b,off+i * 4+3,none⟩=some (.int .i64 t.pos):=by
  rcases hR with rfl|h
  ·simp at h2;omega
  exact h
 have HT:Hid (∀k,k<l.length->∀W,Below w.heap.size w W->W.cell? ⟨b,off+k * 4,none⟩=some (.int .u8 (Pl.tq l k).k)/\W.cell? ⟨b,off+k * 4+1,none⟩=some (.string (Pl.tq l k).tx)/\W.cell? ⟨b,off+k * 4+2,none⟩=some (.int .i64 (Pl.tq l k).v)/\W.cell? ⟨b,off+k * 4+3,none⟩=some (.int .i64 (Pl.tq l k).pos)):=fun k hk W hW=>by
  have:=hc k (Pl.tq l k) (by unfold Pl.tq;rw[List.getElem?_eq_getElem hk];rfl)
  exact⟨bcell hW hbw this.1,bcell hW hbw this.2.1,bcell hW hbw this.2.2.1,bcell hW hbw this.2.2.2⟩
 have KI:Hid (∀(i:Int) (text:ByteArray) (W:World),Below w.heap.size w W->-10<=i->i<=1048577->Calls Tryz.prog 31 #[.slice (some ⟨b,off,none⟩) l.length cap,.int .i64 i,.string text] W fun e w'=>e=.returned (.bool (Pl.isV l i text))/\Below W.heap.size W w'):=fun i text W hW h1 h2 =>
  (l3Is_any l _ cap i text W hl ⟨h1,h2⟩ ((hR.keep hW).up hW.size)).mono (by rintro e w' ⟨rfl,rfl⟩;exact⟨rfl,Below.refl _ _⟩)
 have KE:Hid (∀(t:Pl.Tok) (W:World),Calls Tryz.prog 80 #[.agg #[.int .u8 t.k,.string t.tx,.int .i64 t.v,.int .i64 t.pos]] W fun e w'=>e=.returned (.int .i64 (Pl.e2 t))/\Below W.heap.size W w'):=fun t W=>l3Each2_any t W
 clear hc hR
 have HF:Hid (∀X,Below (w.heap.size+3) (((w.alloc (.cells #[.int .i64 0,.int .i64 0,.int .i64 0,.string ⟨#[]⟩] 88)).alloc (.cells #[.int .i64 0,.int .i64 0,.int .i64 0,.string ⟨#[]⟩] 88)).alloc (.cells #[.int .i64 0,.int .i64 0,.int .i64 0,.string ⟨#[]⟩] 88)) X->Fx w X w.heap.size):=fun X hb=>by
  have z:=hb.size
  simp at z
  exact⟨(((Below.refl _ _).alloc (Nat.le_refl _) _).alloc sI _ |>.alloc (by simp;omega) _).trans (hb.mono oM),by omega,bcell hb oM uFnc12,bcell hb oM uFnc12,bcell hb oM uFnc12,bcell hb oM uFnc12,bcell hb oM uFnc12,bcell hb oM uFnc12,bcell hb oM uFnc12,bcell hb oM uFnc12,bcell hb oM uFnc12,bcell hb oM uFnc12,bcell hb oM uFnc12,bcell hb oM uFnc12,fun j=>bfroz hb oM uFnc12,fun j=>bfroz hb oM uFnc12⟩
 have H0:Hid (∀o1 o2 o3,Below w.heap.size w (((w.alloc o1).alloc o2).alloc o3)):=fun o1 o2 o3=>((Below.refl _ _).alloc (Nat.le_refl _) _).alloc sI _ |>.alloc (by simp;omega) _
 by_cases hA:Pl.isV l ((hi:Int)-1) ⟨#[47]⟩=true
 ·obtain⟨k,rfl⟩:∃k,hi=k+1:=⟨hi-1,by omega⟩
  have K1:=zH (KI.out ((k:Int)) ⟨#[47]⟩)
  rw[show (((k+1:Nat):Int)-1)=(k:Int) by omega] at hA hs
  rw[hA] at K1
  have htx:(Pl.tq l k).tx=⟨#[47]⟩:=Pl.isV_tx oM hA
  have hq:((Pl.tq l k).tx.toList == [92])=false:=by rw[htx,ByteArray.toList_eq];rfl
  have hwk:IntKind.i64.wrap ((k:Int)+1-2)=(k:Int)+1-2:=by rw[IntKind.wrap_i64];omega
  have hwk2:=hwk
  by_cases hk0:k=0
  ·have HR:=zH (show Pl.fnV l (k+1)=(-1,Pl.n4,Pl.n4) by unfold Pl.fnV;rw[show (((k+1:Nat):Int)-1)=(k:Int) by omega,if_pos hs,if_pos (.inl oM)])
   have HK:=HT.out k oM
   subst hk0
   clear hs hA
   generalize Pl.fnV l (0+1)=R at *
   generalize l.length=n at *
   generalize Pl.tq l 0=t at *
   go_enter Tryz.func53,Tryz.ntmps53
   go_wp2_with fail
   refine(K1.out _ (H0.out _ _ _) oM oM).mono ?_
   rintro e w1 ⟨rfl,hb1⟩
   have F1:=zH (HF.out _ (hb1.mono sI))
   clear hb1
   obtain⟨c0,c1,c2,c3⟩:=HK w1 F1.out.b
   obtain⟨_,_,a0,a1,a2,a3,b0,b1,b2,b3,n0,n1,n2,n3,fa,fb⟩:=F1.out
   have FD:=F1.out
   clear KI KE HF H0 K1 HT HK F1
   go_wp2_with fail
   go_region
   all_goals go_wp2_with fail
   all_goals (
    have E:=Fx.res ‹Fx _ _ _› Pl.n4 Pl.n4 _ rfl
    refine bodyPost_ret (v:=.tuple #[.int .i64 (-1),agF Pl.n4,agF Pl.n4]) uFnc11 rfl ⟨by rw[HR.out],E.1.drew⟩)
  obtain⟨j,rfl⟩:∃j,k=j+1:=⟨k-1,by omega⟩
  have HK:=HT.out (j+1) oM
  have HJ:=HT.out j oM
  have KT:=zH (KE.out (Pl.tq l j))
  have e2j:j+1+1-2=j:=by omega
  by_cases hz:Pl.e2 (Pl.tq l j)=0
  ·have HR:=zH (show Pl.fnV l (j+1+1)=(-1,Pl.n4,Pl.n4) by unfold Pl.fnV;rw[show (((j+1+1:Nat):Int)-1)=((j+1:Nat):Int) by omega,if_pos hs,e2j,if_pos (.inr hz)])
   have hzb:(Pl.e2 (Pl.tq l j) == 0)=true:=by rw[hz];rfl
   clear hs hA hz
   generalize Pl.fnV l (j+1+1)=R at *
   generalize l.length=n at *
   generalize Pl.tq l (j+1)=t at *
   generalize hEj:Pl.e2 (Pl.tq l j)=ej at *
   generalize Pl.tq l j=tj at *
   go_enter Tryz.func53,Tryz.ntmps53
   go_wp2_with fail
   refine(K1.out _ (H0.out _ _ _) oM oM).mono ?_
   rintro e w1 ⟨rfl,hb1⟩
   have F1:=zH (HF.out _ (hb1.mono sI))
   clear hb1
   obtain⟨c0,c1,c2,c3⟩:=HK w1 F1.out.b
   obtain⟨d0,d1,d2,d3⟩:=HJ w1 F1.out.b
   go_wp2_with fail
   refine(KT.out _).mono ?_
   rintro e w2 ⟨rfl,hb2⟩
   have F2:=zH (F1.out.keep hb2)
   clear hb2 F1 c0 c1 c2 c3 d0 d1 d2 d3
   obtain⟨_,_,a0,a1,a2,a3,b0,b1,b2,b3,n0,n1,n2,n3,fa,fb⟩:=F2.out
   have FD:=F2.out
   clear KI KE HF H0 K1 HT HK HJ F2
   go_wp2_with fail
   go_region
   all_goals go_wp2_with fail
   all_goals (
    have E:=Fx.res ‹Fx _ _ _› Pl.n4 Pl.n4 _ rfl
    refine bodyPost_ret (v:=.tuple #[.int .i64 (-1),agF Pl.n4,agF Pl.n4]) uFnc11 rfl ⟨by rw[HR.out],E.1.drew⟩)
  have HR:=zH (show Pl.fnV l (j+1+1)=((j:Int),(3,Pl.e2 (Pl.tq l j),0,⟨#[]⟩),Pl.n4) by unfold Pl.fnV;rw[show (((j+1+1:Nat):Int)-1)=((j+1:Nat):Int) by omega,if_pos hs,e2j,if_neg (by rintro (h | h);omega;exact hz h),show j+1+1-1=j+1 by omega,htx,if_neg (by decide),show (((j+1+1:Nat):Int)-2)=(j:Int) by omega])
  have hzb:(Pl.e2 (Pl.tq l j) == 0)=false:=by simpa using hz
  have hwk2:IntKind.i64.wrap (j:Int)=(j:Int):=by rw[IntKind.wrap_i64];omega
  have hwk:IntKind.i64.wrap ((j:Int)+1+1-2)=(j:Int):=by rw[IntKind.wrap_i64];omega
  clear hs hA hz
  generalize Pl.fnV l (j+1+1)=R at *
  generalize l.length=n at *
  generalize Pl.tq l (j+1)=t at *
  generalize hEj:Pl.e2 (Pl.tq l j)=ej at *
  generalize Pl.tq l j=tj at *
  go_enter Tryz.func53,Tryz.ntmps53
  go_wp2_with fail
  refine(K1.out _ (H0.out _ _ _) oM oM).mono ?_
  rintro e w1 ⟨rfl,hb1⟩
  have F1:=zH (HF.out _ (hb1.mono sI))
  clear hb1
  obtain⟨c0,c1,c2,c3⟩:=HK w1 F1.out.b
  obtain⟨d0,d1,d2,d3⟩:=HJ w1 F1.out.b
  go_wp2_with fail
  refine(KT.out _).mono ?_
  rintro e w2 ⟨rfl,hb2⟩
  have F2:=zH (F1.out.keep hb2)
  clear hb2 F1 c0 c1 c2 c3 d0 d1 d2 d3
  obtain⟨_,_,a0,a1,a2,a3,b0,b1,b2,b3,n0,n1,n2,n3,fa,fb⟩:=F2.out
  have SD:Hid (Fs w w2.drew w.heap.size):=F2.out.drew.fs
  have FD:=zH F2.out.drew
  have HJD:=zH HJ
  clear a0 a1 a2 a3 b0 b1 b2 b3 n0 n1 n2 n3 fa fb HJ KI KE HF H0 K1 HT HK F2
  go_wp2_with fail
  refine wp_region_held (S:=fun W=>Fs w W w.heap.size) kR ?_
  change wpAnyH _ _ _ _ _ _ _ _ (World.drew _)
  generalize World.drew w2=wd at SD FD ⊢
  refine tz 0 (.int .i64 ((j:Int)+1+1)) rfl SD.out (fun W hW=>exec_moveq (.tmp 1) _ rfl kR W) ?_
  refine tz 1 (.int .i64 (j:Int)) rfl SD.out (fun W hW=>exec_sub3 (.tmp 41) _ ((j:Int)+1+1) 2 _ rfl kR kR hwk W) ?_
  refine tz 2 (.int .i64 3) rfl SD.out (fun W hW=>exec_moveq (.tmp 8) _ rfl kR W) ?_
  refine tz 3 (.slice (some ⟨b,off,none⟩) n cap) rfl SD.out (fun W hW=>exec_moveq (.tmp 0) _ rfl kR W) ?_
  refine tz 4 (.int .i64 ((j:Int)+1+1)) rfl SD.out (fun W hW=>exec_moveq (.tmp 1) _ rfl kR W) ?_
  refine tz 5 (.int .i64 (j:Int)) rfl SD.out (fun W hW=>exec_sub3 (.tmp 45) _ ((j:Int)+1+1) 2 _ rfl kR kR hwk W) ?_
  refine tz 6 (.pointer (some ⟨b,off+j * 4,none⟩)) rfl SD.out (fun W hW=>exec_idx28 (.tmp 44) (.tmp 46) b off n cap j rfl kR kR oM W) ?_
  refine tz 7 ((.agg #[.int .u8 tj.k,.string tj.tx,.int .i64 tj.v,.int .i64 tj.pos])) rfl SD.out (fun W hW=>exec_load31 (.tmp 47) b (off+j * 4) tj W rfl kR (HJD.out W hW.b).1 (HJD.out W hW.b).2.1 (HJD.out W hW.b).2.2.1 (HJD.out W hW.b).2.2.2) ?_
  refine tz 10 (agF Pl.n4) rfl SD.out (fun W hW=>exec_load79 (.tmp 7) (w.heap.size+1+1) 0 0 0 ⟨#[]⟩ W rfl kR hW.n0 hW.n1 hW.n2 hW.n3) ?_
  refine step_callq (i:=8) kR rfl rfl 80 _ (exec_call1 80 enter60 (.tmp 48) (.agg #[.int .u8 tj.k,.string tj.tx,.int .i64 tj.v,.int .i64 tj.pos]) _ rfl kR wd) ?_
  refine(KT.out _).mono ?_
  rintro e w9 ⟨rfl,hb9⟩
  have F9:=zH (FD.out.keep hb9)
  clear hb9 FD SD
  refine⟨_,rfl,F9.out.fs,?_⟩
  refine tz 9 (.agg #[.int .i64 3,.int .i64 ej,.int .i64 0,.string ⟨#[]⟩]) rfl F9.out.fs (fun W hW=>exec_build79a (.tmp 43) (.tmp 49) 3 ej rfl kR kR W) ?_
  refine step_valq (i:=11) kR rfl rfl (.int .i64 (j:Int)) (exec_assignq (.tmp 42) (.int .i64 (j:Int)) rfl kR w9) F9.out.fs ?_
  refine step_skip (i:=12) kR rfl rfl (exec_store79 (.tmp 5) (.tmp 50) w.heap.size 3 ej 0 ⟨#[]⟩ _ _ _ _ w9 rfl kR kR F9.out.a0 F9.out.a1 F9.out.a2 F9.out.a3 F9.out.fa) (F9.out.fs.set4 _ (.inl rfl) _ _ _ _) ?_
  obtain⟨x0,x1,x2,x3,xf⟩:=F9.out.half (.int .i64 3) (.int .i64 ej) (.int .i64 0) (.string ⟨#[]⟩) _ rfl
  refine step_skip (i:=13) kR rfl rfl (exec_store79 (.tmp 6) (.tmp 51) (w.heap.size+1) 0 0 0 ⟨#[]⟩ _ _ _ _ _ rfl kR kR x0 x1 x2 x3 xf) ((F9.out.fs.set4 _ (.inl rfl) _ _ _ _).set4 _ (.inr rfl) _ _ _ _) ?_
  refine wpAnyH_done kR ?_ _
  have FF:=F9.out
  clear x0 x1 x2 x3 xf
  all_goals go_wp2_with fail
  all_goals (
   have E:=Fx.res ‹Fx _ _ _› (3,ej,0,⟨#[]⟩) Pl.n4 _ rfl
   refine bodyPost_ret (v:=.tuple #[.int .i64 (j:Int),agF (3,ej,0,⟨#[]⟩),agF Pl.n4]) uFnc11 rfl ⟨by rw[HR.out],E.1⟩)
 obtain⟨k,rfl⟩:∃k,hi=k+1:=⟨hi-1,by omega⟩
 have K1:=zH (KI.out ((k:Int)) ⟨#[47]⟩)
 have K2:=zH (KI.out ((k:Int)) ⟨#[92]⟩)
 rw[show (((k+1:Nat):Int)-1)=(k:Int) by omega] at hA hs
 have hA':Pl.isV l (k:Int) ⟨#[92]⟩=true:=hs.resolve_left hA
 rw[Bool.eq_false_iff.2 hA] at K1
 rw[hA'] at K2
 have htx:(Pl.tq l k).tx=⟨#[92]⟩:=Pl.isV_tx oM hA'
 have hq:((Pl.tq l k).tx.toList == [92])=true:=by rw[htx,ByteArray.toList_eq];rfl
 have hwk:IntKind.i64.wrap ((k:Int)+1-2)=(k:Int)+1-2:=by rw[IntKind.wrap_i64];omega
 have hwk2:=hwk
 by_cases hk0:k=0
 ·have HR:=zH (show Pl.fnV l (k+1)=(-1,Pl.n4,Pl.n4) by unfold Pl.fnV;rw[show (((k+1:Nat):Int)-1)=(k:Int) by omega,if_pos hs,if_pos (.inl oM)])
  have HK:=HT.out k oM
  subst hk0
  clear hs hA
  generalize Pl.fnV l (0+1)=R at *
  generalize l.length=n at *
  generalize Pl.tq l 0=t at *
  go_enter Tryz.func53,Tryz.ntmps53
  go_wp2_with fail
  refine(K1.out _ (H0.out _ _ _) oM oM).mono ?_
  rintro e w1 ⟨rfl,hb1⟩
  have F1:=zH (HF.out _ (hb1.mono sI))
  clear hb1
  go_wp2_with fail
  refine(K2.out _ F1.out.b oM oM).mono ?_
  rintro e w2 ⟨rfl,hb2⟩
  have F2:=zH (F1.out.keep hb2)
  clear hb2 F1
  obtain⟨c0,c1,c2,c3⟩:=HK w2 F2.out.b
  obtain⟨_,_,a0,a1,a2,a3,b0,b1,b2,b3,n0,n1,n2,n3,fa,fb⟩:=F2.out
  have FD:=F2.out
  clear KI KE HF H0 K1 HT HK F2
  go_wp2_with fail
  go_region
  all_goals go_wp2_with fail
  all_goals (
   have E:=Fx.res ‹Fx _ _ _› Pl.n4 Pl.n4 _ rfl
   refine bodyPost_ret (v:=.tuple #[.int .i64 (-1),agF Pl.n4,agF Pl.n4]) uFnc11 rfl ⟨by rw[HR.out],E.1.drew⟩)
 obtain⟨j,rfl⟩:∃j,k=j+1:=⟨k-1,by omega⟩
 have HK:=HT.out (j+1) oM
 have HJ:=HT.out j oM
 have KT:=zH (KE.out (Pl.tq l j))
 have e2j:j+1+1-2=j:=by omega
 by_cases hz:Pl.e2 (Pl.tq l j)=0
 ·have HR:=zH (show Pl.fnV l (j+1+1)=(-1,Pl.n4,Pl.n4) by unfold Pl.fnV;rw[show (((j+1+1:Nat):Int)-1)=((j+1:Nat):Int) by omega,if_pos hs,e2j,if_pos (.inr hz)])
  have hzb:(Pl.e2 (Pl.tq l j) == 0)=true:=by rw[hz];rfl
  clear hs hA hz
  generalize Pl.fnV l (j+1+1)=R at *
  generalize l.length=n at *
  generalize Pl.tq l (j+1)=t at *
  generalize hEj:Pl.e2 (Pl.tq l j)=ej at *
  generalize Pl.tq l j=tj at *
  go_enter Tryz.func53,Tryz.ntmps53
  go_wp2_with fail
  refine(K1.out _ (H0.out _ _ _) oM oM).mono ?_
  rintro e w1 ⟨rfl,hb1⟩
  have F1:=zH (HF.out _ (hb1.mono sI))
  clear hb1
  go_wp2_with fail
  refine(K2.out _ F1.out.b oM oM).mono ?_
  rintro e w2 ⟨rfl,hb2⟩
  have F2:=zH (F1.out.keep hb2)
  clear hb2 F1
  obtain⟨c0,c1,c2,c3⟩:=HK w2 F2.out.b
  obtain⟨d0,d1,d2,d3⟩:=HJ w2 F2.out.b
  go_wp2_with fail
  refine(KT.out _).mono ?_
  rintro e w3 ⟨rfl,hb3⟩
  have F3:=zH (F2.out.keep hb3)
  clear hb3 F2 c0 c1 c2 c3 d0 d1 d2 d3
  obtain⟨_,_,a0,a1,a2,a3,b0,b1,b2,b3,n0,n1,n2,n3,fa,fb⟩:=F3.out
  have FD:=F3.out
  clear KI KE HF H0 K1 HT HK HJ F3
  go_wp2_with fail
  go_region
  all_goals go_wp2_with fail
  all_goals (
   have E:=Fx.res ‹Fx _ _ _› Pl.n4 Pl.n4 _ rfl
   refine bodyPost_ret (v:=.tuple #[.int .i64 (-1),agF Pl.n4,agF Pl.n4]) uFnc11 rfl ⟨by rw[HR.out],E.1.drew⟩)
 have HR:=zH (show Pl.fnV l (j+1+1)=((j:Int),(4,Pl.e2 (Pl.tq l j),0,⟨#[]⟩),Pl.n4) by unfold Pl.fnV;rw[show (((j+1+1:Nat):Int)-1)=((j+1:Nat):Int) by omega,if_pos hs,e2j,if_neg (by rintro (h | h);omega;exact hz h),show j+1+1-1=j+1 by omega,htx,if_pos rfl,show (((j+1+1:Nat):Int)-2)=(j:Int) by omega])
 have hzb:(Pl.e2 (Pl.tq l j) == 0)=false:=by simpa using hz
 have hwk2:IntKind.i64.wrap (j:Int)=(j:Int):=by rw[IntKind.wrap_i64];omega
 have hwk:IntKind.i64.wrap ((j:Int)+1+1-2)=(j:Int):=by rw[IntKind.wrap_i64];omega
 clear hs hA hz
 generalize Pl.fnV l (j+1+1)=R at *
 generalize l.length=n at *
 generalize Pl.tq l (j+1)=t at *
 generalize hEj:Pl.e2 (Pl.tq l j)=ej at *
 generalize Pl.tq l j=tj at *
 go_enter Tryz.func53,Tryz.ntmps53
 go_wp2_with fail
 refine(K1.out _ (H0.out _ _ _) oM oM).mono ?_
 rintro e w1 ⟨rfl,hb1⟩
 have F1:=zH (HF.out _ (hb1.mono sI))
 clear hb1
 go_wp2_with fail
 refine(K2.out _ F1.out.b oM oM).mono ?_
 rintro e w2 ⟨rfl,hb2⟩
 have F2:=zH (F1.out.keep hb2)
 clear hb2 F1
 obtain⟨c0,c1,c2,c3⟩:=HK w2 F2.out.b
 obtain⟨d0,d1,d2,d3⟩:=HJ w2 F2.out.b
 go_wp2_with fail
 refine(KT.out _).mono ?_
 rintro e w3 ⟨rfl,hb3⟩
 have F3:=zH (F2.out.keep hb3)
 clear hb3 F2 c0 c1 c2 c3 d0 d1 d2 d3
 obtain⟨_,_,a0,a1,a2,a3,b0,b1,b2,b3,n0,n1,n2,n3,fa,fb⟩:=F3.out
 have SD:Hid (Fs w w3.drew w.heap.size):=F3.out.drew.fs
 have FD:=zH F3.out.drew
 have HJD:=zH HJ
 clear a0 a1 a2 a3 b0 b1 b2 b3 n0 n1 n2 n3 fa fb HJ KI KE HF H0 K1 HT HK F3
 go_wp2_with fail
 refine wp_region_held (S:=fun W=>Fs w W w.heap.size) kR ?_
 change wpAnyH _ _ _ _ _ _ _ _ (World.drew _)
 generalize World.drew w3=wd at SD FD ⊢
 refine tz 0 (.int .i64 ((j:Int)+1+1)) rfl SD.out (fun W hW=>exec_moveq (.tmp 1) _ rfl kR W) ?_
 refine tz 1 (.int .i64 (j:Int)) rfl SD.out (fun W hW=>exec_sub3 (.tmp 41) _ ((j:Int)+1+1) 2 _ rfl kR kR hwk W) ?_
 refine tz 2 (.int .i64 4) rfl SD.out (fun W hW=>exec_moveq (.tmp 8) _ rfl kR W) ?_
 refine tz 3 (.slice (some ⟨b,off,none⟩) n cap) rfl SD.out (fun W hW=>exec_moveq (.tmp 0) _ rfl kR W) ?_
 refine tz 4 (.int .i64 ((j:Int)+1+1)) rfl SD.out (fun W hW=>exec_moveq (.tmp 1) _ rfl kR W) ?_
 refine tz 5 (.int .i64 (j:Int)) rfl SD.out (fun W hW=>exec_sub3 (.tmp 45) _ ((j:Int)+1+1) 2 _ rfl kR kR hwk W) ?_
 refine tz 6 (.pointer (some ⟨b,off+j * 4,none⟩)) rfl SD.out (fun W hW=>exec_idx28 (.tmp 44) (.tmp 46) b off n cap j rfl kR kR oM W) ?_
 refine tz 7 ((.agg #[.int .u8 tj.k,.string tj.tx,.int .i64 tj.v,.int .i64 tj.pos])) rfl SD.out (fun W hW=>exec_load31 (.tmp 47) b (off+j * 4) tj W rfl kR (HJD.out W hW.b).1 (HJD.out W hW.b).2.1 (HJD.out W hW.b).2.2.1 (HJD.out W hW.b).2.2.2) ?_
 refine tz 10 (agF Pl.n4) rfl SD.out (fun W hW=>exec_load79 (.tmp 7) (w.heap.size+1+1) 0 0 0 ⟨#[]⟩ W rfl kR hW.n0 hW.n1 hW.n2 hW.n3) ?_
 refine step_callq (i:=8) kR rfl rfl 80 _ (exec_call1 80 enter60 (.tmp 48) (.agg #[.int .u8 tj.k,.string tj.tx,.int .i64 tj.v,.int .i64 tj.pos]) _ rfl kR wd) ?_
 refine(KT.out _).mono ?_
 rintro e w9 ⟨rfl,hb9⟩
 have F9:=zH (FD.out.keep hb9)
 clear hb9 FD SD
 refine⟨_,rfl,F9.out.fs,?_⟩
 refine tz 9 (.agg #[.int .i64 4,.int .i64 ej,.int .i64 0,.string ⟨#[]⟩]) rfl F9.out.fs (fun W hW=>exec_build79a (.tmp 43) (.tmp 49) 4 ej rfl kR kR W) ?_
 refine step_valq (i:=11) kR rfl rfl (.int .i64 (j:Int)) (exec_assignq (.tmp 42) (.int .i64 (j:Int)) rfl kR w9) F9.out.fs ?_
 refine step_skip (i:=12) kR rfl rfl (exec_store79 (.tmp 5) (.tmp 50) w.heap.size 4 ej 0 ⟨#[]⟩ _ _ _ _ w9 rfl kR kR F9.out.a0 F9.out.a1 F9.out.a2 F9.out.a3 F9.out.fa) (F9.out.fs.set4 _ (.inl rfl) _ _ _ _) ?_
 obtain⟨x0,x1,x2,x3,xf⟩:=F9.out.half (.int .i64 4) (.int .i64 ej) (.int .i64 0) (.string ⟨#[]⟩) _ rfl
 refine step_skip (i:=13) kR rfl rfl (exec_store79 (.tmp 6) (.tmp 51) (w.heap.size+1) 0 0 0 ⟨#[]⟩ _ _ _ _ _ rfl kR kR x0 x1 x2 x3 xf) ((F9.out.fs.set4 _ (.inl rfl) _ _ _ _).set4 _ (.inr rfl) _ _ _ _) ?_
 refine wpAnyH_done kR ?_ _
 have FF:=F9.out
 clear x0 x1 x2 x3 xf
 all_goals go_wp2_with fail
 all_goals (
  have E:=Fx.res ‹Fx _ _ _› (4,ej,0,⟨#[]⟩) Pl.n4 _ rfl
  refine bodyPost_ret (v:=.tuple #[.int .i64 (j:Int),agF (4,ej,0,⟨#[]⟩),agF Pl.n4]) uFnc11 rfl ⟨by rw[HR.out],E.1⟩)
end Go.Proofs.YtbiiicbfpcfgdaaGreatDoor
