import Derived.Test.YtiagfejlmafliaaGreatDoorWl
namespace Go.Proofs.YtiagfejlmafliaaGreatDoor
set_option linter.all false
open Go.Proofs.Tryz Pl
open Go.RowKit
set_option maxRecDepth 100000
set_option maxHeartbeats 16000000
open Pl (Ar)
open World renaming setCell->ez,alloc->ew
open List renaming range->eA,replicate->eE
open Option renaming some->a_,none->c_
open Bool renaming true->b_,false->d_
variable {ρ:Prop}
def ahL{X:Prop}(h:X:=by
 have mb:=M.h4 fP rfl;have hN:=(J.o B (jD _ _)).2.2.2.2;have n1:¬w.1.size=fP:=by have:=mb.2;omega
 have n2:¬w.1.size+1=fP:=by have:=mb.2;omega
 have SZ:=SS.o _ M.bl
 cases ft
 ·refine ts 15 _ rfl rfl rfl (jf (.pointer (a_ ⟨fP,0,c_⟩)) (.agg #[nJ,nJ]) rfl kF kF (mU mb.1)) ⟨(SZ.1.eC JG _).eC JG _,(SZ.2.eC JR _).eC JR _⟩ ?_
  refine tk 16 (I 6) rfl ⟨(SZ.1.eC JG _).eC JG _,(SZ.2.eC JR _).eC JR _⟩ (λ_ _=>kF) ?_;have RR:Hid (Below B.1.size B ((W.setCell ⟨fP,0,c_⟩ (nJ)).setCell ⟨fP,1,c_⟩ (nJ))/\Bx ((W.setCell ⟨fP,0,c_⟩ (nJ)).setCell ⟨fP,1,c_⟩ (nJ)) fP #[nJ,nJ] 30):=⟨(M.bl.setCell mb.2 _).setCell mb.2 _,(mb.1.set 0 _).set 1 _⟩;refine te ?_;clear M mb SZ;generalize ez (ez W _ _) _ _=Wy at *;go_simp;go_wp2;go_meet
  case rel=>exact⟨fP,rfl,.inr ⟨rfl,rfl,RR⟩⟩
 ·refine ts 15 _ rfl rfl rfl (jf (.pointer (a_ ⟨fP,0,c_⟩)) (.agg #[.slice ax p4 ay,.slice (a_ ⟨b6,0,c_⟩) 0 0]) rfl kF kF (mU mb.1)) ⟨(SZ.1.eC JG _).eC JG _,(SZ.2.eC JR _).eC JR _⟩ ?_
  refine tk 16 (I 0) rfl ⟨(SZ.1.eC JG _).eC JG _,(SZ.2.eC JR _).eC JR _⟩ (λ_ _=>kF) ?_;have RR:=zH M.fin;refine te ?_;clear M mb SZ;generalize ez (ez W _ _) _ _=Wy at *;go_simp;go_wp2;go_meet
  case rel=>exact⟨fP,rfl,.inl ⟨rfl,rfl,ax,ay,_,RR⟩⟩):X:=h
def aiV.Yb(h:ρ:=by
 obtain⟨c0,f0,z0⟩:=(V1.o.1.below hb).all;obtain⟨c1,f1,z1⟩:=(V1.o.2.1.below hb).all;obtain⟨c2,f2,z2⟩:=(V1.o.2.2.1.below hb).all;have YB:=bv hb V1.o.2.2.2;clear hb V1;have q1:((p0:Int) == 0)=b_\/(((p0:Int) == 0)=d_/\((p2:Int) == 0)=b_):=by simp only[uy,gR];omega
 rcases q1 with q1|⟨q1,q2⟩ <;>
 ·go_wp2
  refine eJ Jc rfl ?_;exact ny
 ):ρ:=h
def amU.Qb(h:ρ:=by
 have H:=zH h;have H':=zH h';have HA:=zH ha;have HB:=zH hb;obtain⟨⟨x0,y0,rfl⟩,x1,y1,rfl⟩:=h.eS;obtain⟨⟨x2,y2,rfl⟩,x3,y3,rfl⟩:=h'.eS;clear h h' ha hb;unfold Pl.inner;obtain⟨sa,da⟩:=a;obtain⟨sb,db⟩:=b;simp only at H H' KA KB HA HB ⊢;obtain⟨p1,E1⟩:=jN (da.length);have⟨p3,E3⟩:=jN (db.length);rw[E1.o] at H KA ⊢;rw[E3.o] at H' KB ⊢
 cases hf:Pl.fN f
 ·rw[hf] at KF
  rw[eB sI];generalize sa.length=p0,sb.length=p2 at *;go_enter func108,ntmps108;go_wp2_with (go_at_call 123;refine(KF.o _).mono ?_;rintro e w' ⟨rfl,rfl⟩)
  refine eJ (by simp[results,results108,go_sem];try rfl) rfl ?_;exact ny
 rw[hf] at KF
 cases hg:Pl.fN g
 ·rw[hg] at KG
  rw[eB sI];generalize sa.length=p0,sb.length=p2 at *;go_enter func108,ntmps108;go_wp2_with (go_at_call 123;(first | with_reducible refine(KF.o _).mono ?_ | with_reducible refine(KG.o _).mono ?_);rintro e w' ⟨rfl,rfl⟩)
  refine eJ (by simp[results,results108,go_sem];try rfl) rfl ?_;exact ny
 rw[hg] at KG;rw[eD sI];have⟨r,HR⟩:∃r,Hid (r=Pl.mC f g (sa,da) (sb,db)):=⟨_,rfl⟩;rw[<- HR.o];by_cases hz:sa=[]\/sb=[]
 ·have hr:r=.error 2:=by
   rw[HR.o,Pl.mC];rcases hz with e|e
   ·simp[e]
   ·cases hc:sa.reverse <;> simp[e]
  subst hr;have hl:sa.length=0\/sb.length=0:=by rcases hz with e | e <;> simp[e]
  clear hz HR;generalize sa.length=p0,sb.length=p2 at *;go_enter func108,ntmps108;go_wp2_with (go_at_call 123;(first | with_reducible refine(KF.o _).mono ?_ | with_reducible refine(KG.o _).mono ?_);rintro e w' ⟨rfl,rfl⟩)
  open aiV in exact YU
 have mD:¬sa=[]:=λe=>hz (.inl e);have nj:¬sb=[]:=λe=>hz (.inr e);clear hz;obtain⟨fL,n,rfl⟩:∃fL n,sa=fL++[n]:=⟨sa.dropLast,sa.getLast mD,(ZZ mD).symm⟩;obtain⟨m,row,rfl⟩:∃m row,sb=m::row:=by cases sb with
  |nil=>exact absurd rfl nj
  |cons m row=>exact⟨m,row,rfl⟩
 have eP:Hid (r=if ¬n=m then .error 3 else if Pl.fy (fL++row)=b_ then Pl.wS (fL++row) (Pl.eU (λi=>Pl.uD f g (Pl.rowAt da m.toNat (i / Pl.eQ row)) (Pl.rP db (Pl.eQ row) m.toNat (i % Pl.eQ row))) (eA (Pl.eQ fL * Pl.eQ row))) else .error 6):=by
  exact Y4
 have⟨p0,E0⟩:=jN (fL.length);have⟨p2,E2⟩:=jN (row.length);have H0:=zH (H.o.1.cut (l:=0) (h:=p0) (vZ _) (by simp[E0.o]));have e0:((fL++[n]).drop 0).take (p0-0)=fL:=by rw[vK,mw,<- E0.o];simp
 rw[e0] at H0;have H2:=zH H'.o.1.tl;have kv:=H.o.1.cap.1;simp only[hJ,fW,iA] at H KA H0 kv ⊢;simp only[fW] at H' KB H2 ⊢;rw[E0.o] at H KA kv ⊢;rw[E2.o] at H' KB H2 ⊢;rw[gY] at H KA kv ⊢;rw[show p2+1-1=p2 by omega] at H2;rw[mw,mw] at H0;obtain⟨b0,o0,rfl,kE,hc0⟩:=H.o.1.rw.at (i:=p0) (v:=n) (by rw[<- E0.o];simp);obtain⟨b2,o2,rfl,hb2,jC⟩:=H'.o.1.rw.at (i:=0) rfl;rw[iz] at jC;have CH:=zH λW=>DV (w:=W) (x:=a_ ⟨b0,o0,c_⟩) (n:=p0+1) (y:=y0) (h:=p0) oM;have CL:=zH λW=>mO (w:=W) (x:=a_ ⟨b2,o2,c_⟩) (n:=p2+1) (y:=y2) (l:=1) oM;simp only[mw,Py] at CH CL;have la:p0<=2:=by have:=(Pl.ok_eq HA.o).2.2.2.1;simp[E0.o] at this;omega
 have lb:p2<=2:=by have:=(Pl.ok_eq HB.o).2.2.2.1;simp[E2.o] at this;omega
 generalize fU (a_ ⟨b0,o0,c_⟩) 0 y0=xh,fU (a_ ⟨b2,o2,c_⟩) 1 y2=xl,y2-1=yl at *;clear HR mD nj e0 kv;go_enter func108,ntmps108;go_wp2_with (go_at_call 123;(first | with_reducible refine(KF.o _).mono ?_ | with_reducible refine(KG.o _).mono ?_);rintro e w' ⟨rfl,rfl⟩)
 generalize hW:ew (ew (ew w _) _) _=W9;have V0:=mK hW;clear hW;refine(KA.o _ V0.o.2.2.2.1).l λw1 hb=>?_;have V1:=zH (jA (V0.o.1.below hb) (jA (V0.o.2.1.below hb) (jA (V0.o.2.2.1.below hb) (bv hb V0.o.2.2.2.1))));obtain⟨c0,f0,z0⟩:=V1.o.2.1.all;clear hb V0 f0;go_wp2_with fail;refine(KB.o _ V1.o.2.2.2).l λB hb=>?_;have J:Hid (∀W,Below B.1.size B W->Bx W w.1.size #[.slice (a_ ⟨b0,o0,c_⟩) (p0+1) y0,.slice x1 p1 y1] 30/\Bx W (w.1.size+1) #[.slice (a_ ⟨b2,o2,c_⟩) (p2+1) y2,.slice x3 p3 y3] 30/\Bx W (w.1.size+1+1) #[nJ,nJ] 30/\Below w.1.size w W/\w.1.size+1+1<B.1.size):=λW k=>⟨(V1.o.1.below hb).below k,(V1.o.2.1.below hb).below k,(V1.o.2.2.1.below hb).below k,bv k (bv hb V1.o.2.2.2),(V1.o.2.2.1.below hb).lt⟩;clear hb V1 c0 z0;have⟨S0,S1,S2,S3,S4⟩:=J.o B (jD _ _);obtain⟨c0,f0,z0⟩:=S0.all;obtain⟨c1,f1,z1⟩:=S1.all;obtain⟨c2,f2,z2⟩:=S2.all;have vY:=(S3.cell (p:=⟨b0,o0+p0,c_⟩) kE).trans hc0;have ry:=(S3.cell (p:=⟨b2,o2,c_⟩) hb2).trans jC;have l0:b0<B.1.size:=jL kE S3.size;have l2:b2<B.1.size:=jL hb2 S3.size;have YB:=S3;have q1:((p0:Int)+1 == 0)=d_:=by rw[gR];omega
 have q2:((p2:Int)+1 == 0)=d_:=by rw[gR];omega
 clear S0 S1 S2 S3 f0 f1;by_cases qz:n=m
 rotate_left
 ·have hr:r=.error 3:=by rw[eP.o,eD qz]
  subst hr;have gu:(n != m)=b_:=by rw[iH];exact qz
  go_wp2;refine eJ Jc rfl ?_;exact ny
 subst qz;have gu:(n != n)=d_:=sI;rw[eB sI] at eP;obtain⟨k,tt,Hh,N,rfl,ht,hH,hF⟩:=inF HA.o HB.o;rw[ht,hH,qp] at eP;have HF:=zH hF;rw[<- hF.nn] at eP;have⟨F,HG⟩:∃F:Nat->Except Int Int,Hid (F=λi=>Pl.uD f g (Pl.rowAt da k (i / tt)) (Pl.rP db tt k (i % tt))):=⟨_,rfl⟩;rw[<- HG.o] at eP;clear hF ht hH c2 f2 z2;go_wp2_with fail;have SS:Hid (∀W,Below B.1.size B W->Bx W w.1.size #[.slice (a_ ⟨b0,o0,c_⟩) (p0+1) y0,.slice x1 p1 y1] 30/\Bx W (w.1.size+1) #[.slice (a_ ⟨b2,o2,c_⟩) (p2+1) y2,.slice x3 p3 y3] 30):=λW k=>⟨(J.o W k).1,(J.o W k).2.1⟩;have KC:Hid (∀W,Below B.1.size B W->Cp 25 #[.slice xh p0 y0] W λe w'=>Below W.1.size W w'/\∃u,e=.returned u/\Oi W.1.size w' u fL):=λW k=>lG _ fL W (H0.o.rw.kp (.of (J.o W k).2.2.2.1)) JO;have RY:Hid (∀W,Below B.1.size B W->Rw P W (.slice xl p2 yl) row):=λW k=>H2.o.rw.kp (.of (J.o W k).2.2.2.1);have⟨p4,EA⟩:=jN ((fL++row).length);have UB:Hid (fL.length+row.length<=16777216):=by show _<=_;rw[E0.o,E2.o];omega
 have KM:Hid (∀W ax ay (b6:Nat),Rw (λ_=>True) W (.slice ax p4 ay) (fL++row)->Cp 135 #[.slice ax p4 ay,.slice (a_ ⟨b6,0,c_⟩) 0 0] W λe w'=>Below W.1.size W w'/\e=.returned (.tuple #[if Pl.fy (fL++row)=b_ then .agg #[.slice ax p4 ay,.slice (a_ ⟨b6,0,c_⟩) 0 0] else .agg #[nJ,nJ],I (if Pl.fy (fL++row)=b_ then 0 else 6)])):=λW ax ay b6 h=>Ax _ _ _ [] h rfl;have⟨ft,Fu⟩:=jN (Pl.fy (fL++row));rw[Fu.o] at KM eP;go_cut [12,13] from 69 (λv8 v9 W=>∃pb:Nat,v8=.pointer (a_ ⟨pb,0,c_⟩)/\((Fl ft b_/\v9=I 0/\∃ax ay dv,Hid (Ou B.1.size W pb (.slice ax p4 ay) dv (fL++row) []/\Below B.1.size B W/\Bx W pb #[.slice ax p4 ay,dv] 30))\/(Fl ft d_/\v9=I 6/\Hid (Below B.1.size B W/\Bx W pb #[nJ,nJ] 30))))
 case first =>
  refine fT (S:=λW=>Bx W w.1.size #[.slice (a_ ⟨b0,o0,c_⟩) (p0+1) y0,.slice x1 p1 y1] 30/\Bx W (w.1.size+1) #[.slice (a_ ⟨b2,o2,c_⟩) (p2+1) y2,.slice x3 p3 y3] 30) kF (SS.o B (jD _ _)) (λhS=>?_);refine tk 0 (.pointer (a_ ⟨w.1.size,0,c_⟩)) rfl hS (λ_ _=>kF) ?_;refine tk 1 _ rfl hS (λW h=>fh _ _ rfl kF (kC h.1)) ?_;refine tk 2 (I (p0:Int)) rfl hS (λ_ _=>kF) ?_;refine tk 3 (.slice xh p0 y0) rfl hS (λW _=>AW rfl kF kF (CH.o W)) ?_;refine tk 5 (.pointer (a_ ⟨w.1.size+1,0,c_⟩)) rfl hS (λ_ _=>kF) ?_;refine tk 6 _ rfl hS (λW h=>fh _ _ rfl kF (kC h.2)) ?_;refine tk 7 (.slice xl p2 yl) rfl hS (λW _=>ie rfl kF kF (CL.o W)) ?_;clear hS;have M:MS B.1.size B B.drew fL row c_ c_ c_ c_:=MS.start (show Below B.1.size B _ from by go_grown) (jR _);clear c0 z0 c1 z1 vY ry l0 l2 YB kE hb2 hc0 jC KA KB KF KG eP HG;generalize B.drew=W at *
  iterate 5
   all_goals first
    |(have _g:MS _ _ _ _ _ c_ c_ c_ c_:=M;clear _g;refine BP 4 9 14 rfl rfl rfl ?_ ?_ ?_)
    |(have _g:MS _ _ _ _ _ c_ c_ (a_ _) c_:=M;clear _g;refine gT 4 14 rfl rfl ?_ ?_)
    |(have _g:MS _ _ _ _ _ c_ c_ c_ (a_ _):=M;clear _g;refine gT 4 9 rfl rfl ?_ ?_)
    |(have _g:MS _ _ _ _ _ c_ c_ (a_ _) (a_ _):=M;clear _g;refine iO 4 rfl ?_)
    |(have _g:MS _ _ _ _ _ (a_ _) c_ c_ c_:=M;clear _g;refine BP 8 9 14 rfl rfl rfl ?_ ?_ ?_)
    |(have _g:MS _ _ _ _ _ (a_ _) c_ (a_ _) c_:=M;clear _g;refine gT 8 14 rfl rfl ?_ ?_)
    |(have _g:MS _ _ _ _ _ (a_ _) c_ c_ (a_ _):=M;clear _g;refine gT 8 9 rfl rfl ?_ ?_)
    |(have _g:MS _ _ _ _ _ (a_ _) c_ (a_ _) (a_ _):=M;clear _g;refine iO 8 rfl ?_)
    |(have _g:MS _ _ _ _ _ c_ (a_ _) c_ c_:=M;clear _g;refine gT 9 14 rfl rfl ?_ ?_)
    |(have _g:MS _ _ _ _ _ c_ (a_ _) c_ (a_ _):=M;clear _g;refine iO 9 rfl ?_)
    |(have _g:=MD;refine iO 14 rfl ?_)
    |(have _g:MS _ _ _ _ _ c_ (a_ _) (a_ _) c_:=M;clear _g;refine gT 10 14 rfl rfl ?_ ?_)
    |(have _g:MS _ _ _ _ _ c_ (a_ _) (a_ _) (a_ _):=M;clear _g;refine iO 10 rfl ?_)
   all_goals first
    |(refine zM rfl (.tmp 73) (.tmp 76) rfl kF kF (M.h1 _ rfl) (RY.o _ M.bl) UB.o M.sz ?_
      intro v' W ho hg ha;have⟨ax,ay,e4⟩:=ho.form;rw[EA.o] at e4;subst e4;replace M:=M.app hg ho ha;clear ho hg ha;refine⟨SS.o _ M.bl,?_⟩)
    |(refine iL (.slice (a_ ⟨W.1.size,0,c_⟩) 0 0) (W.alloc (.cells #[] 3)) rfl (Q7 rfl) (SS.o _ M.emp.bl) ?_
      replace M:=M.emp;generalize W.alloc _=Wn at M ⊢;generalize W.1.size=b6 at M ⊢;obtain⟨W,rfl⟩:∃Y,Y=Wn:=⟨_,rfl⟩)
    |(refine iL (.pointer (a_ ⟨W.1.size,0,c_⟩)) (W.alloc (.cells #[nJ,nJ] 30)) rfl (xO _ rfl (BJ _)) (SS.o _ M.box.bl) ?_
      replace M:=M.box;generalize W.alloc _=Wn at M ⊢;generalize W.1.size=fP at M ⊢;obtain⟨W,rfl⟩:∃Y,Y=Wn:=⟨_,rfl⟩)
    |(refine lC rfl kF ((KC.o _ M.bl).mono ?_)
      rintro e W ⟨hb,u,rfl,o⟩;have⟨cx,cy,e2⟩:=o.form;rw[E0.o] at e2;subst e2;replace M:=M.copy hb o;clear hb o;refine⟨_,rfl,SS.o _ M.bl,?_⟩)
    |(refine lC rfl kF ((KM.o _ ax ay b6 ((M.h2 _ rfl).ri.rw.jG λ_ _ _=>trivial)).mono ?_)
      rintro e W ⟨hb,rfl⟩;replace M:=M.below hb;have MD:=True.intro;clear hb;refine⟨_,rfl,SS.o _ M.bl,?_⟩;refine tk 11 (.tuple #[if ft=b_ then .agg #[.slice ax p4 ay,.slice (a_ ⟨b6,0,c_⟩) 0 0] else .agg #[nJ,nJ],I (if ft=b_ then 0 else 6)]) rfl (SS.o _ M.bl) (λ_ _=>kF) ?_;refine tk 12 (if ft=b_ then .agg #[.slice ax p4 ay,.slice (a_ ⟨b6,0,c_⟩) 0 0] else .agg #[nJ,nJ]) rfl (SS.o _ M.bl) (λ_ _=>kF) ?_;refine tk 13 (I (if ft=b_ then 0 else 6)) rfl (SS.o _ M.bl) (λ_ _=>kF) ?_)
  all_goals exact ahL
 case rest =>
  obtain⟨pb,rfl,hcut⟩:=hcut;clear c0 z0 c1 z1;rcases hcut with ⟨hft,rfl,ax,ay,dv,ik⟩|⟨hft,rfl,ik⟩
  rotate_left
  ·have hr:r=.error 6:=by rw[eP.o,show ft=d_ from hft];rfl
   subst hr;obtain⟨c0,f0,z0⟩:=ik.o.2.all;obtain⟨c1,f1,z1⟩:=(J.o _ ik.o.1).2.2.1.all;have jo:=zH (J.o _ ik.o.1).2.2.2.1;clear vY ry l0 l2 YB;go_wp2;refine eJ Jc rfl ?_;have:=jo.o;exact ny
  have Ao:Hid (r=Pl.wS (fL++row) (Pl.eU F (eA N))):=by show _=_;rw[eP.o,show ft=b_ from hft];rfl
  obtain⟨hh,t',eh,et,bh,bt,hNt,zF,ri,rr,hN⟩:=alQ HF.o (Fu.o.trans hft);have Mk:Hid (∀W,Below B.1.size B W->Cp 48 #[.slice xh p0 y0] W λe w'=>e=.returned (I (hh:Int))/\w'=W):=λW k=>by have:=wU _ (H0.o.rw.kp (.of (J.o W k).2.2.2.1)) JO ri;rw[eh] at this;exact this
  have KP2:Hid (∀W,Below B.1.size B W->Cp 48 #[.slice xl p2 yl] W λe w'=>e=.returned (I (t':Int))/\w'=W):=λW k=>by have:=wU _ (H2.o.rw.kp (.of (J.o W k).2.2.2.1)) (by rw[E2.o];omega) rr;rw[et] at this;exact this
  have HP:=zH zF;have HN:=zH hNt;obtain⟨xd,yd,rfl⟩:=ik.o.1.o1.form;simp only[iA] at ik ⊢;have⟨S0,S1,S2,S3,S4⟩:=J.o wc ik.o.2.1;have c0:=S0.cf.1 0;have z0:=S0.lt;have c1:=S1.cf.1 0;have z1:=S1.lt;have B1:=ik.o.2.1;have KL:=zH λ(x y:List Int)(lx:x.length=k) (ly:y.length=k) hx hy=>ahJ (f:=f) hg lx ly (by have:=HF.o.m1;omega) hx hy;have m1:=HF.o.m1;have VA:=zH (Pl.ok_eq HA.o).2.2.1;have VB:=zH (Pl.ok_eq HB.o).2.2.1;simp only at VA VB;clear eP hft Fu KM KC RY UB SS H0 H2 E0 E2 vY ry l0 l2 YB kE hb2 hc0 jC KA KB KF KG zF hNt eh et ri rr S0 S1 S2 S3 S4 HA HB;go_wp2_with (first | (refine iW rfl (AW rfl rfl rfl (CH.o _)) ?_) | (refine iW rfl (ie rfl rfl rfl (CL.o _)) ?_) | (go_at_call 48;(first | with_reducible refine(Mk.o _ B1).mono ?_ | with_reducible refine(KP2.o _ B1).mono ?_);rintro e w' ⟨rfl,rfl⟩))
  clear c0 z0 c1 z1 Mk KP2 CH CL B1;go_loopw [16,17,18,19,20,21] (λi _ _ _ _ _ wr=>∃(u:Nat)(acc:List Int) (dv:Va),i=I (u:Int)/\u<=hh/\Hid (acc.length=u * t'/\Pl.eU F (eA N)=gM F (eA N) (u * t') acc)/\Hid (Below B.1.size B wr)/\Hid (Ou B.1.size wr pb (.slice ax p4 ay) dv (fL++row) acc)) (λi _ _ _ _ _ _=>hh-(intOf i).toNat)
  case atStart=>exact⟨0,[],_,rfl,vZ _,⟨sI,by rw[py];exact(p_ _ _).symm⟩,ik.o.2.1,ik.o.1⟩
  case round =>
   obtain⟨u,acc,dv,rfl,hu,hE,hB,hU⟩:=hrel;clear ik;by_cases hun:u=hh
   ·subst hun
    have⟨S0,S1,S2,S3,S4⟩:=J.o _ hB.o;obtain⟨c2,f2,z2⟩:=S2.all;have HS:=zH (jA S2 (jA S3 S4));obtain⟨xd,yd,rfl⟩:=hU.o.o1.form;obtain⟨c3,f3,z3⟩:=hU.o.bx.all;clear S0 S1 S2 S3 S4;have hr:r=.ok (fL++row,acc):=by rw[Ao.o,hE.o.2,<- HN.o,qf _ _ _ _ sI];rfl
    subst hr;clear hE KL HG HF H H' VA VB HP HN J Ao hB;go_upto_region 31 with fail
    iterate 14 (try (first | go_values | go_skip | go_guarded | go_step | go_upon | go_back))
    change bodyPost prog Tryz.f108 _ Exit.ret _ _;refine eJ (by simp[results,results108,go_sem,c2,z2];try rfl) rfl ?_;exact Ha
   ·have eI:(u:Int)<(hh:Int):=oM
    go_wp2_with fail;go_loopw [17,18,19,20,21] (λi _ _ _ _ wr=>∃(c:Nat)(acc:List Int) (dv:Va),i=I (c:Int)/\c<=t'/\Hid (acc.length=u * t'+c/\Pl.eU F (eA N)=gM F (eA N) (u * t'+c) acc)/\Hid (Below B.1.size B wr)/\Hid (Ou B.1.size wr pb (.slice ax p4 ay) dv (fL++row) acc)) (λi _ _ _ _ _=>t'-(intOf i).toNat)
    case atStart=>exact⟨0,acc,_,rfl,vZ _,hE,hB,hU⟩
    case round =>
     clear hE hB hU;obtain⟨c,acc,dv,rfl,hc,hE,hB,hU⟩:=hrel;by_cases hct:c=t'
     ·subst hct
      have j_:Hid (acc.length=(u+1) * c/\Pl.eU F (eA N)=gM F (eA N) ((u+1) * c) acc):=by rw[iu];exact hE
      go_wp2;go_roundw
      case rel=>exact⟨u+1,acc,_,gN,oM,j_,hB,hU⟩
      case measure=>simp[intOf];omega
     ·have pN:(c:Int)<(t':Int):=oM
      have⟨et,eH⟩:=HP.o oM oM;have xK:u * t'+c<N:=by
       have h1:(u+1) * t'<=hh * t':=gv _ oM;rw[iu,<- HN.o] at h1;omega
      have HAb:=zH (show u * t'+c<1000000 from by omega);have eL:=zH (qc F (eA N) (u * t'+c) acc (u * t'+c) (by rw[uw xK]));have⟨xs,HX⟩:∃xs,Hid (xs=Pl.rowAt da k u):=⟨_,rfl⟩;have⟨ys,HY⟩:∃ys,Hid (ys=Pl.rP db t' k c):=⟨_,rfl⟩;have wv:F (u * t'+c)=Pl.uD f g xs ys:=by
       rw[HG.o,HX.o,HY.o,et];have h1:(u * t'+c) / t'=u:=by rw[zj,Px _ _ oM,Pv oM,gY]
       have h2:(u * t'+c) % t'=c:=by rw[zj,Pu,Dz oM]
       simp only[h1,h2]
      have oR:=HF.o.la;rw[E1.o,eH] at oR;have su:=HF.o.lb;rw[E3.o,et] at su;have p1b:=HF.o.ll.1;have p3b:=HF.o.ll.2;rw[E1.o] at p1b;rw[E3.o] at p3b;have Sb:u * k+k<=p1:=by have:(u+1) * k<=hh * k:=gv _ oM;rw[iu] at this;omega
      have LX:Hid (xs.length=k):=by show _=_;rw[HX.o];exact Pl.rK (by rw[E1.o,iu];exact Sb)
      have LY:Hid (ys.length=k):=by show _=_;rw[HY.o];simp[Pl.rP]
      have XV:Hid (xs.all Pl.fB=b_):=by rw[HX.o];exact Pl.C8 VA.o
      have YV:Hid (ys.all Pl.fB=b_):=by rw[HY.o];exact ga.2 (Pl.Oe (ga.1 VB.o) _ _ _)
      have YD:Hid (∀j,j<k->∃y,ys[j]? = a_ y/\db[j * t'+c]? = a_ y/\j * t'+c<p3):=λj hj=>by
       have h1:(j+1) * t'<=k * t':=gv _ hj;rw[iu,<- su] at h1;have hi:j * t'+c<p3:=oM;exact YZ
      have RX:Hid (Ri P w (.slice (fU x1 (u * k) y1) k (y1-u * k)) xs):=by
       have hc:=H.o.2.cut (l:=u * k) (h:=u * k+k) oM oM;rw[show u * k+k-u * k=k by omega] at hc;rw[HX.o];exact hc
      have kv:=H.o.2.cap.1;have CX:=zH λW=>Ps (w:=W) (x:=x1) (n:=p1) (y:=y1) (l:=u * k) (h:=u * k+k) oM oM;rw[show u * k+k-u * k=k by omega] at CX;generalize fU x1 (u * k) y1=xr,y1-u * k=yr at *;have⟨uk,Ui⟩:=jN (u * k);have SC:(u:Int) * (k:Int)=(uk:Int):=by rw[<- Ui.o];simp
      rw[Ui.o] at CX Sb;have⟨Rf,Kf⟩:=jN (uk+k);have apJ:(uk:Int)+(k:Int)=(Rf:Int):=by rw[<- Kf.o];simp
      rw[Kf.o] at CX Sb;have wk1:IntKind.i64.wrap (uk:Int)=(uk:Int):=by rw[lj];have:=Kf.o;omega
      have wk2:IntKind.i64.wrap (Rf:Int)=(Rf:Int):=by rw[lj];omega
      have⟨KL1,KL2,okx,oky⟩:=KL.o xs ys LX.o LY.o XV.o YV.o;rw[wv,KL1] at eL;have Rt:=zH okx;have Rq:=zH oky;have Uf:=zH KL2;have UBA:Hid (∀y:Int,acc.length+[y].length<=16777216):=λy=>by have:=hE.o.1;simp;omega
      clear wv KL1 KL2 oR su xK HX Ui Kf okx oky p1b kv;have N0:=hB.o.size;have GE:=zH (Pl.QH hg Rt.o Rq.o);obtain⟨wo,rfl⟩:∃z,z=wr:=⟨_,rfl⟩;go_upto_block 4 with fail
      go_cut [18,19] from 100 to 162 (λcv i W=>∃x y,cv=.slice x k y/\Hid (Oi wo.1.size W (.slice x k y) ys/\Below wo.1.size wo W))
      case first =>
       go_wp2_with fail;go_loopw [18,19] (λcv i w2=>∃(j:Nat)(x y:_),cv=.slice x j y/\i=I (j:Int)/\j<=k/\Hid (Oi wo.1.size w2 (.slice x j y) (ys.take j))/\Hid (Below wo.1.size wo w2)) (λ_ i _=>k-(intOf i).toNat)
       case atStart=>exact⟨0,a_ ⟨wo.1.size,0,c_⟩,0,rfl,rfl,vZ _,by rw[A7];exact Oi.emp (jR _),(show Below _ _ _ from by go_grown)⟩
       case round =>
        obtain⟨j,xc,yc,rfl,rfl,hj,hO,mH⟩:=hrel;have N2:=mH.o.size;have⟨S0,S1,S2,S3,S4⟩:=J.o _ (bv mH.o hB.o);by_cases SH:j=k
        rotate_left
        ·have BE:j<k:=oM
         have hjI:(j:Int)<(k:Int):=oM;have⟨y,hy,EH,Cl⟩:=YD.o j BE;obtain⟨b3,o3,rfl,eV,pQ⟩:=(H'.o.2.rw.kp (.of S3)).at EH;have⟨jt,HJ⟩:=jN (j * t');have gJ:(j:Int) * (t':Int)=(jt:Int):=by rw[<- HJ.o];simp
         rw[HJ.o] at Cl pQ;have⟨ix,Ap⟩:=jN (jt+c);have fY:(jt:Int)+(c:Int)=(ix:Int):=by rw[<- Ap.o];simp
         rw[Ap.o] at Cl pQ;have aoZ:(jt:Int)<=1000:=by have:=Ap.o;omega
         have wj:IntKind.i64.wrap (jt:Int)=(jt:Int):=by rw[lj];omega
         have wi:IntKind.i64.wrap (ix:Int)=(ix:Int):=by rw[lj];omega
         have c1:=S1.cf.1 1;have z1:=S1.lt;have UB:Hid ((ys.take j).length+[y].length<=16777216):=by show _<=_;rw[jH,LY.o];simp;omega
         have TK:Hid (ys.take j++[y]=ys.take (j+1)):=by show _=_;rw[Pl.vq hy]
         have LT:Hid ((ys.take (j+1)).length=j+1):=by show _=_;rw[jH,LY.o];omega
         clear S0 S1 S2 S3 S4 EH hy;go_wp2_with (at_builtin;refine nu rfl (.tmp 111) (.tmp 121) rfl rfl rfl (hO.o.kp eY) (mV _ y) UB.o J2 ?_)
         intro v' w9 ho EC ha;rw[TK.o] at ho;have B9:=zH (hO.o.kp eY |>.fI (w:=wo) (by have:=mH.o;go_grown) EC J2);have⟨xv,yv,e9⟩:=ho.form;rw[LT.o] at e9;subst e9;have O9:=zH ho;clear ho EC ha hO mH c1 pQ;go_wp2;go_roundw
         case rel=>exact⟨j+1,xv,yv,rfl,gN,oM,O9,B9⟩
         case measure=>simp[intOf];omega
        subst SH;have TKE:Hid (ys.take j=ys):=by show _=_;rw[<- LY.o,km]
        rw[TKE.o] at hO;have RR:=zH (jA hO.o mH.o);clear hO mH S0 S1 S2 S3 S4;go_wp2;go_meet
        case rel=>exact⟨xc,yc,rfl,RR⟩
      case rest =>
       obtain⟨xc,yc,rfl,To⟩:=hcut;obtain⟨wr,rfl⟩:∃z,z=wc:=⟨_,rfl⟩;have hO:=zH To.o.1;have mH:=zH To.o.2;have N2:=mH.o.size;have⟨S0,S1,S2,S3,S4⟩:=J.o _ (bv mH.o hB.o);clear To;have BC:=zH mH.o;have JC:Hid (∀W,Below wr.1.size wr W->Bx W (w.1.size+1+1) #[nJ,nJ] 30/\Below w.1.size w W/\w.1.size+1+1<B.1.size/\Below wo.1.size wo W/\Below B.1.size B W):=λW kk=>by
        have⟨S0,S1,S2,S3,S4⟩:=J.o W (bv kk (bv mH.o hB.o));exact⟨S2,S3,S4,bv kk mH.o,bv kk (bv mH.o hB.o)⟩
       have KV1:Hid (∀W,Below wr.1.size wr W->Cp 76 #[.slice xr k yr] W λe w'=>Below W.1.size W w'/\∃x0 y0 x1 y1,e=.returned (.agg #[.slice x0 1 y0,.slice x1 k y1])/\RA (W.1.size<=·) w' (.slice x0 1 y0) (.slice x1 k y1) ([(k:Int)],xs)):=λW kk=>by
        have:=sH _ xs W (RX.o.rw.kp (.of (JC.o W kk).2.1)) (by rw[LX.o];omega);rw[LX.o] at this;exact this
       have KV2:Hid (∀W,Below wr.1.size wr W->Cp 76 #[.slice xc k yc] W λe w'=>Below W.1.size W w'/\∃x0 y0 x1 y1,e=.returned (.agg #[.slice x0 1 y0,.slice x1 k y1])/\RA (W.1.size<=·) w' (.slice x0 1 y0) (.slice x1 k y1) ([(k:Int)],ys)):=λW kk=>by
        have:=sH _ ys W (hO.o.kp (.of kk)).ri.rw (by rw[LY.o];omega);rw[LY.o] at this;exact this
       have c0:=S0.cf.1 1;have z0:=S0.lt;clear S0 S1 S2 S3 S4 mH YD;go_wp2_with (refine iW rfl (Oa rfl rfl rfl rfl (CX.o _)) ?_)
       refine(KV1.o wr (jD _ _)).mono ?_;rintro e w1 ⟨hb1,x4,y4,x5,y5,rfl,ra1⟩;have Ak:=zH ra1;clear ra1 c0 z0;have jo:=zH (show Below wr.1.size wr w1 from hb1);clear hb1;go_wp2_with fail;refine(KV2.o w1 jo.o).mono ?_;rintro e w2 ⟨hb2,x6,y6,x7,y7,rfl,qw⟩;have tW:=zH (qw.mono (Q:=λ_=>True) λ_ _ _=>trivial);have aa7:=zH ((Ak.o.kp (.of hb2)).mono (Q:=λ_=>True) λ_ _ _=>trivial);have p9:=zH (bv hb2 jo.o);clear qw hb2 Ak jo KV1 KV2;go_wp2_with fail;refine(Na g hg _ _ _ _ _ _ aa7.o tW.o Rt.o Rq.o).mono ?_;rintro e w3 hK;obtain⟨x8,l8,y8,x9,l9,y9,rfl,Aj,eV⟩:=hK.open;have o_:=zH (bv eV p9.o);clear hK eV aa7 tW p9 Rt Rq;generalize Pl.el (Pl.two g) ([(k:Int)],xs) ([(k:Int)],ys)=q at *
       cases q with
       |error ce =>
        have hce:(ce == 0)=d_:=by rw[gR];exact GE.o
        have ao7:(ce != 0)=b_:=by rw[iH];exact GE.o
        have eN:r=.error ce:=by rw[Ao.o,hE.o.2,eL.o];rfl
        subst eN;simp only[f_];have V9:=zH (JC.o w3 o_.o);clear Uf GE eL hE hB hU KL HG HF H H' VA VB HP HN J RX XV YV LX LY CX BC hO Ao HY UBA Aj JC o_;go_upto_region 29 with fail
        generalize hW:ew w3 _=W9;have X9:Bx W9 (w.1.size+1+1) #[nJ,nJ] 30:=by subst hW;exact V9.o.1.al _
        have YB:Below w.1.size w W9:=by subst hW;exact bv (show Below w3.1.size w3 _ from by go_grown) V9.o.2.1
        clear hW V9;exact YW
       |ok m =>
        have⟨okm,em⟩:=Uf.o m rfl;have Rv:=zH okm;have eM:=zH em;have KR:Hid (∀W {Q:Nat->Prop},RA Q W (.slice x8 l8 y8) (.slice x9 l9 y9) m->Cp 126 #[I f,.agg #[.slice x8 l8 y8,.slice x9 l9 y9]] W (SP W (Pl.red f m))):=λW Q h=>FJ f hf _ _ _ h Rv.o;simp only[f_] at Aj ⊢;clear okm em GE Uf;go_wp2_with fail;generalize hW:ew w3 _=W4;have V4:=jV hW;clear hW;refine(KR.o W4 (Aj.o.kp (.of V4.o.2.1))).mono ?_;rintro e w5 hK;obtain⟨xP,l10,Kk,x11,pK,uH,rfl,yF,kV⟩:=hK.open;have X5:=zH (V4.o.1.below kV);have vk:=zH (bv kV (bv V4.o.2.1 o_.o));have l3:Hid (w3.1.size<W4.1.size/\wr.1.size<=w3.1.size):=⟨V4.o.1.lt,o_.o.size⟩;have GR:=zH (Pl.Ds hf Rv.o);have RV:Hid (∀a,Pl.red f m=.ok a->a.1=[]):=λa ha=>by
         obtain⟨sh,zm⟩:=m;obtain rfl:sh=[(k:Int)]:=eM.o;exact WY ha
        clear hK kV V4 Aj KR o_ Rv eM;generalize Pl.red f m=q at *
        cases q with
        |error ce =>
         have ao7:(ce != 0)=b_:=by rw[iH];exact GR.o
         have eN:r=.error ce:=by rw[Ao.o,hE.o.2,eL.o];rfl
         subst eN;simp only[f_];obtain⟨c4,f4,z4⟩:=X5.o.all;have n24:¬w.1.size+1+1=w3.1.size:=by have:=l3.o;have:=(JC.o w5 vk.o).2.2.1;have:=N2;have:=N0;omega
         have V9:=zH (JC.o w5 vk.o);have l9:=(JC.o w5 vk.o).2.1.size;clear eL hE hB hU KL HG HF H H' VA VB HP HN J RX XV YV LX LY CX BC hO Ao HY UBA yF GR RV X5 JC vk;go_upto_region 29 with fail
         generalize hW:ez (ez w5 _ _) _ _=W9;have X9:Bx W9 (w.1.size+1+1) #[nJ,nJ] 30:=by subst hW;exact(V9.o.1.eC (by simpa using n24) _).eC (by simpa using n24) _
         have YB:Below w.1.size w W9:=by subst hW;have:=V9.o.2.1;have:=V9.o.2.2.1;have:=l3.o;have:=N2;have:=N0;go_grown
         clear hW V9 c4 f4 z4;exact YW
        |ok ar =>
         have⟨z,hz,gX,hv⟩:=Pl.ok_one (show Pl.okB ar=b_ from GR.o) (RV.o ar rfl);have E9:Hid ((acc++[z]).length=u * t'+(c+1)/\Pl.eU F (eA N)=gM F (eA N) (u * t'+(c+1)) (acc++[z])):=⟨by simp[hE.o.1];omega,by rw[hE.o.2,eL.o];simp only[gX];rfl⟩;simp only[f_] at yF ⊢;obtain⟨b7,o7,rfl,yu,zZ⟩:=yF.o.2.rw.at hz;rw[iz] at zZ;have aoX:0<pK:=by have:=yF.o.2.rw.len;have:=(gQ.1 hz).1;omega
         obtain⟨c4,f4,z4⟩:=X5.o.all;have nb7:¬b7=w3.1.size:=by have:=(yF.o.2.rw.eX hz);have:=l3.o;omega
         have X6:=zH ((X5.o.set 0 (.slice xP l10 Kk)).set 1 (.slice (a_ ⟨b7,o7,c_⟩) pK uH));have EJ:=zH (show ((w5.setCell ⟨w3.1.size,0,c_⟩ (.slice xP l10 Kk)).setCell ⟨w3.1.size,1,c_⟩ (.slice (a_ ⟨b7,o7,c_⟩) pK uH)).cell? ⟨b7,o7,c_⟩=a_ (I z) from (rZ (by simpa using nb7) _).trans ((rZ (by simpa using nb7) _).trans zZ));have B6:Hid (Below wo.1.size wo ((w5.setCell ⟨w3.1.size,0,c_⟩ (.slice xP l10 Kk)).setCell ⟨w3.1.size,1,c_⟩ (.slice (a_ ⟨b7,o7,c_⟩) pK uH))):=((JC.o w5 vk.o).2.2.2.1.setCell (by have:=l3.o;simp;omega) _).setCell (by have:=l3.o;simp;omega) _;have HAc:Hid (acc.length<=1000000):=by show _<=_;rw[hE.o.1];have:=HAb.o;omega
         have NB:Hid (∀b,dv.ownBlock=a_ b->¬b=w3.1.size/\¬b=b7):=λb e=>by have:=(hU.o.o1.lt e).2;have:=l3.o;have:=yF.o.2.rw.eX hz;omega
         have NP:Hid (¬w3.1.size=pb/\¬b7=pb):=by show _/\_;have:=hU.o.bx.lt;have:=l3.o;have:=yF.o.2.rw.eX hz;omega
         have l7:Hid (b7<((w5.setCell ⟨w3.1.size,0,c_⟩ (.slice xP l10 Kk)).setCell ⟨w3.1.size,1,c_⟩ (.slice (a_ ⟨b7,o7,c_⟩) pK uH)).1.size):=by show _<_;simpa using yu
         clear JC eL hE zZ yu hO yF X5 vk GR RV KL HG HF H H' VA VB HP HN J RX XV YV LX LY CX BC Ao HY;go_upto_region 30 with fail
         generalize ez (ez w5 _ _) _ _=W6 at *;have hU6:=zH (hU.o.below B6.o);have LQ:=zH (bv B6.o hB.o);have aaZ:acc.length<=1000000:=HAc.o;clear hU hB B6 c4 f4 z4;refine ahK hU6.o LQ.o rfl aaZ X6.o EJ.o l7.o aoX (by exact λ_ _ _ _ _ h=>h) NB.o NP.o ?_;intro v154 apB apA v157 apz v159 v160 apy v162 v' W9 R9 B9;clear hU6 LQ X6 EJ l7 NB NP;go_wp2;refine⟨?_,?measure⟩
         ·(repeat apply Exists.intro)
          refine⟨?rel,rfl⟩
          case rel=>exact⟨c+1,_,_,gN,oM,E9,B9,R9⟩
         case measure=>simp[intOf];omega
 ):ρ:=h
def abC{P:Nat->Prop}(f g:Int)(v0 v1 v2 v3:Va)(a b:Ar)(w:Wd)(h:RA P w v0 v1 a)(h':RA P w v2 v3 b)(ha:Pl.okB a=b_)(hb:Pl.okB b=b_):Cp 108 #[I f,I g,.agg #[v0,v1],.agg #[v2,v3]] w (SP w (Pl.inner f g a b)):=by
 have KF:=zH λW=>wW f W;have KG:=zH λW=>wW g W;open amU in exact QC
end Go.Proofs.YtiagfejlmafliaaGreatDoor
