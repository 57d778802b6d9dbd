import Derived.Test.YtiagfejlmafliaaGreatDoorRm
namespace Go.Proofs.YtiagfejlmafliaaGreatDoor
set_option linter.all false
open Go.Proofs.Tryz Pl
open Go.RowKit
set_option maxRecDepth 100000
set_option maxHeartbeats 16000000
open Pl (Ar)
open World renaming setCell->ez,alloc->ew
open List renaming range->eA,replicate->eE
open Option renaming some->a_,none->c_
open Bool renaming true->b_,false->d_
variable {ρ:Prop}
def We:∀(l:lI)(s:Int) (d:lI) (t:Int),Pl.iy l s=a_ (d,t)->0<=s->s<=2147483647->0<=t/\t<=2147483647
 |[],s,d,t,h,h0,h1=>by simp[Pl.iy] at h;omega
 |n::r,s,d,t,h,h0,h1=>by
  simp only[Pl.iy] at h;split at h
  ·cases h
  cases e:Pl.iy r (s * 48271 % 2147483647) with
  |none=>rw[e] at h;cases h
  |some q =>
   obtain⟨d',t'⟩:=q;rw[e] at h;simp only[kh,kH] at h;rw[<- h.2];exact We r _ d' t' e oM oM
def afT{L:Lm}{a:Ar}{s:Int}{d:lI}{t:Int}(h:sQ L a s=.ok (d,t)):Pl.iy a.2 s=a_ (d,t):=by
 unfold sQ at h;split at h
 ·cases h
 cases e:Pl.iy a.2 s with
 |none=>rw[e] at h;cases h
 |some q=>rw[e] at h;injection h with h;rw[h]
def ahm(L:Lm)(a:Ar)(m:Ms):Pl.roll L a m=match sQ L a m.s with
  |.error x=>(.error (2,x),m)
  |.ok (d,s)=>eG L (a.1,d) ⟨m.f,m.c,s⟩:=by
 unfold Pl.roll sQ;split
 ·rfl
 cases Pl.iy a.2 m.s with
 |none=>rfl
 |some q=>rfl
def akb.On(h:ρ:=by
 go_region_held3 (λw'=>(w'.cell? (Y w.1.size 0)=a_ (I (f'+1))/\w'.cell? (Y w.1.size 1)=a_ (I c')/\w'.cell? (Y w.1.size 2)=a_ (I t')/\w'.cell? (Y w.1.size 3)=a_ (I 0)/\w'.cell? (Y w.1.size 4)=a_ (I 0))/\(w'.cell? (Y (w.1.size+1) 0)=a_ (I lf)/\w'.cell? (Y (w.1.size+1) 1)=a_ (I lc)/\w'.cell? (Y (w.1.size+1) 2)=a_ (.bool lr)/\w'.cell? (Y (w.1.size+1) 3)=a_ (I ls))/\w'.cell? (Y Z 0)=a_ (sX x6 a.1.length y6)/\w'.cell? (Y Z 1)=a_ (sX x7 ds.length y7)) (go_keep) (first | (go_at_call 80;refine(KK.o _ _ _ _).mono ?_;rintro e wA ⟨rfl,hb⟩;have FA:=zH (F9.o.call (iq hb));have⟨d0,g0,l0⟩:=FA.o.b0.all;have⟨d1,g1,l1⟩:=FA.o.b1.all;have⟨d2,g2,l2⟩:=FA.o.b2.all;have⟨d3,g3,l3⟩:=FA.o.b3.all;have⟨d7,g7,l7⟩:=(b9.below (iq hb)).all;have L':=zH (RQ.o.kp (.of (iq hb)))))
 all_goals
  go_wp2;refine eJ J9 rfl ?_;have:=FA.o.bl;rw[HR.o];refine HP.o _ _ _ gG ((L'.o.kp uL).mono λb h _=>.inr oM)
 ):ρ:=h
def aka.On(h:ρ:=by
 go_region_held3 (λw'=>(w'.cell? (Y w.1.size 0)=a_ (I (f'+1))/\w'.cell? (Y w.1.size 1)=a_ (I c')/\w'.cell? (Y w.1.size 2)=a_ (I s5)/\w'.cell? (Y w.1.size 3)=a_ (I 2)/\w'.cell? (Y w.1.size 4)=a_ (I x))/\(w'.cell? (Y (w.1.size+1) 0)=a_ (I lf)/\w'.cell? (Y (w.1.size+1) 1)=a_ (I lc)/\w'.cell? (Y (w.1.size+1) 2)=a_ (.bool lr)/\w'.cell? (Y (w.1.size+1) 3)=a_ (I ls))/\w'.cell? (Y Z 0)=a_ (sX a0 n0 p0)/\w'.cell? (Y Z 1)=a_ (sX a1 n1 p1)) (go_keep) (first | (go_at_call 80;refine(UY (f'+1) c' s5 x ⟨lf,lc,lr,ls⟩ _ _ _ _ _).mono ?_;rintro e wA ⟨rfl,hb⟩;have FA:=zH (F9.o.call (iq hb));have⟨d0,g0,l0⟩:=FA.o.b0.all;have⟨d1,g1,l1⟩:=FA.o.b1.all;have⟨d2,g2,l2⟩:=FA.o.b2.all;have⟨d3,g3,l3⟩:=FA.o.b3.all;have⟨d7,g7,l7⟩:=(b9.below (iq hb)).all))
 all_goals
  go_wp2;refine eJ J9 rfl ?_;have:=FA.o.bl;rw[HR.o];exact⟨gG,nI,sI,_,_,_,_,_,_,_,rfl⟩
 ):ρ:=h
def an8.aaA(h:ρ:=by
 have uW:¬lf<=f':=oM;rw[eB uW];replace HR:Hid (r=match sQ ⟨lf,lc,lr,ls⟩ a s' with
  |.error x=>(.error (2,x),⟨f'+1,c',s'⟩)
  |.ok (d,s)=>eG ⟨lf,lc,lr,ls⟩ (a.1,d) ⟨f'+1,c',s⟩):=(HR.o.trans (eB uW)).trans (ahm ⟨lf,lc,lr,ls⟩ a ⟨f'+1,c',s'⟩)
 have F4:=zH (F3.o.st (f'+1) c' s' 0 0);have pX:Hid (RO K (λb=>P b\/w.1.size+7<=b) (((((w3.setCell (Y w.1.size 0) (I (f'+1))).setCell (Y w.1.size 1) (I c')).setCell (Y w.1.size 2) (I s')).setCell (Y w.1.size 3) (I 0)).setCell (Y w.1.size 4) (I 0)) (sX x0 a.1.length y0) (sX x1 a.2.length y1) a):=oY.o.kp (by
  repeat' (first | with_reducible exact Kp.refl _ _ | with_reducible refine Kp.set ?_ ?_ _ | exact HN.o _ J6 J6))
 have nI:gL ⟨f'+1,c',s'⟩:=⟨by simp only;omega,by have:=hL.f;simp only at this ⊢;omega,g2,g3,g4,g5⟩;obtain⟨⟨d0,f0,z0⟩,⟨d1,f1,z1⟩,⟨d2,f2,z2⟩,⟨d3,f3,z3⟩,⟨d4,f4,z4⟩,⟨d5,f5,z5⟩,⟨d6,f6,z6⟩⟩:=F3.o.all;go_wp2_with fail;generalize ez (ez (ez (ez (ez w3 _ _) _ _) _ _) _ _) _ _=W4 at *;refine(sH (P:=P) _ [] W4 ⟨_,_,rfl,.inl rfl⟩ sI).mono ?_;rintro e w5 ⟨hb,x2,y2,x3,y3,rfl,_⟩;have F5:=F4.o.call hb;have zB5:=F5.b6.lt;replace F4:=zH (F5.call (W':=w5.alloc (.cells #[sX x2 1 y2,sX x3 0 y3] 30)) gG);have b7:Bx (w5.alloc (.cells #[sX x2 1 y2,sX x3 0 y3] 30)) w5.1.size #[sX x2 1 y2,sX x3 0 y3] 30:=.eK rfl;replace pX:=zH ((pX.o.kp (.of hb)).kp (w':=w5.alloc (.cells #[sX x2 1 y2,sX x3 0 y3] 30)) eY);obtain⟨⟨d0,f0,z0⟩,⟨d1,f1,z1⟩,⟨d2,f2,z2⟩,⟨d3,f3,z3⟩,⟨d4,f4,z4⟩,⟨d5,f5,z5⟩,⟨d6,f6,z6⟩⟩:=F5.all;go_wp2_with fail;generalize w5.alloc _=W5,w5.1.size=Z at *;have lZ:=b7.lt;have oR:=O.len a pX.o.2;refine(adF (f'+1) c' s' 0 ⟨lf,lc,lr,ls⟩ _ _ a W5 pX.o.1 oR.1 oR.2 g4 g5).mono ?_;rintro e w6 ⟨hb,hp⟩;replace F4:=zH (F4.o.call hb);replace b7:=b7.below hb;have HOk:=zH pX.o.2
 cases hq:sQ ⟨lf,lc,lr,ls⟩ a s' with
 |error x =>
  rw[hq] at hp HR;obtain⟨a0,n0,p0,a1,n1,p1,s5,rfl⟩:=hp;simp only at HR;have F7:=zH (((F4.o.fz (p:=(Y Z 0)) J6 (sX a0 n0 p0)).fz (p:=(Y Z 1)) J6 (sX a1 n1 p1)).st (f'+1) c' s5 2 x);obtain⟨⟨d0,f0,z0⟩,⟨d1,f1,z1⟩,⟨d2,f2,z2⟩,⟨d3,f3,z3⟩,⟨d4,f4,z4⟩,⟨d5,f5,z5⟩,⟨d6,f6,z6⟩⟩:=F4.o.all;obtain⟨d7,f7,z7⟩:=b7.all;have bZ:Bx (((((((w6.setCell (Y Z 0) (sX a0 n0 p0)).setCell (Y Z 1) (sX a1 n1 p1)).setCell (Y w.1.size 0) (I (f'+1))).setCell (Y w.1.size 1) (I c')).setCell (Y w.1.size 2) (I s5)).setCell (Y w.1.size 3) (I 2)).setCell (Y w.1.size 4) (I x)) Z #[sX a0 n0 p0,sX a1 n1 p1] 30:=(((((((b7.set 0 _).set 1 _).fa _).fa _).fa _).fa _).fa _);go_wp2_with fail;have b7:=bZ;generalize ez (ez (ez (ez (ez (ez (ez w6 _ _) _ _) _ _) _ _) _ _) _ _) _ _=W8 at *;refine(C9 (f'+1) c' s5 2 x W8).k λw9 hb=>?_;have F8:=zH (F7.o.call hb);replace b7:=b7.below hb;obtain⟨⟨c0,f0,z0⟩,⟨c1,f1,z1⟩,⟨c2,f2,z2⟩,⟨c3,f3,z3⟩,⟨c4,f4,z4⟩,⟨c5,f5,z5⟩,⟨c6,f6,z6⟩⟩:=F8.o.all;go_wp2_with fail;have F9:=zH (F8.o.st (f'+1) c' s5 2 x);have b9:Bx (((((w9.setCell (Y w.1.size 0) (I (f'+1))).setCell (Y w.1.size 1) (I c')).setCell (Y w.1.size 2) (I s5)).setCell (Y w.1.size 3) (I 2)).setCell (Y w.1.size 4) (I x)) Z _ 30:=((((b7.eC J2 _).eC J2 _).eC J2 _).eC J2 _).eC J2 _;generalize ez (ez (ez (ez (ez w9 _ _) _ _) _ _) _ _) _ _=W9 at *;obtain⟨c7,f7,z7⟩:=b9.all;obtain⟨⟨c0,f0,z0⟩,⟨c1,f1,z1⟩,⟨c2,f2,z2⟩,⟨c3,f3,z3⟩,⟨c4,f4,z4⟩,⟨c5,f5,z5⟩,⟨c6,f6,z6⟩⟩:=F9.o.all;open aka in exact Pe
 |ok q =>
  obtain⟨ds,t'⟩:=q;rw[hq] at hp HR;obtain⟨u0,u1,rfl,ra⟩:=hp;obtain⟨⟨x6,y6,rfl⟩,x7,y7,rfl⟩:=ra.eS;simp only at HR;have Sh:=afT hq;have fF:=O.roll a s' ds t' HOk.o Sh;have htb:=We _ _ _ _ Sh g4 g5;have hm5:gL ⟨f'+1,c',t'⟩:=⟨nI.f0,nI.f1,g2,g3,htb.1,htb.2⟩;have F7:=zH (((F4.o.fz (p:=(Y Z 0)) J6 (sX x6 a.1.length y6)).fz (p:=(Y Z 1)) J6 (sX x7 ds.length y7)).st (f'+1) c' t' 0 0);obtain⟨⟨d0,f0,z0⟩,⟨d1,f1,z1⟩,⟨d2,f2,z2⟩,⟨d3,f3,z3⟩,⟨d4,f4,z4⟩,⟨d5,f5,z5⟩,⟨d6,f6,z6⟩⟩:=F4.o.all;obtain⟨d7,f7,z7⟩:=b7.all;have RQ:Hid (RO K (w.1.size+7<=·) (((((((w6.setCell (Y Z 0) (sX x6 a.1.length y6)).setCell (Y Z 1) (sX x7 ds.length y7)).setCell (Y w.1.size 0) (I (f'+1))).setCell (Y w.1.size 1) (I c')).setCell (Y w.1.size 2) (I t')).setCell (Y w.1.size 3) (I 0)).setCell (Y w.1.size 4) (I 0)) (sX x6 a.1.length y6) (sX x7 ds.length y7) (a.1,ds)):=⟨(ra.kp (by repeat' (first | with_reducible exact Kp.refl _ _ | with_reducible refine Kp.set ?_ ?_ _ | (dsimp only;omega)))).mono λb h _=>oM,fF⟩;have bZ:Bx (((((((w6.setCell (Y Z 0) (sX x6 a.1.length y6)).setCell (Y Z 1) (sX x7 ds.length y7)).setCell (Y w.1.size 0) (I (f'+1))).setCell (Y w.1.size 1) (I c')).setCell (Y w.1.size 2) (I t')).setCell (Y w.1.size 3) (I 0)).setCell (Y w.1.size 4) (I 0)) Z #[sX x6 a.1.length y6,sX x7 ds.length y7] 30:=(((((((b7.set 0 _).set 1 _).fa _).fa _).fa _).fa _).fa _);have⟨C,Kd,KK,HP⟩:=NJ (K:=K) (P:=P) (w:=w) hL hm5 (a:=(a.1,ds)) rfl (O.len (a.1,ds) fF).2;go_wp2_with fail;have b7:=bZ;generalize ez (ez (ez (ez (ez (ez (ez w6 _ _) _ _) _ _) _ _) _ _) _ _) _ _=W8 at *;refine(C9 (f'+1) c' t' 0 0 W8).k λw9 hb=>?_;have F8:=zH (F7.o.call hb);replace b7:=b7.below hb;replace RQ:=zH (RQ.o.kp (.of hb));obtain⟨⟨c0,f0,z0⟩,⟨c1,f1,z1⟩,⟨c2,f2,z2⟩,⟨c3,f3,z3⟩,⟨c4,f4,z4⟩,⟨c5,f5,z5⟩,⟨c6,f6,z6⟩⟩:=F8.o.all;go_wp2_with fail;have F9:=zH (F8.o.st (f'+1) c' t' 0 0);have b9:Bx (((((w9.setCell (Y w.1.size 0) (I (f'+1))).setCell (Y w.1.size 1) (I c')).setCell (Y w.1.size 2) (I t')).setCell (Y w.1.size 3) (I 0)).setCell (Y w.1.size 4) (I 0)) Z _ 30:=((((b7.eC J2 _).eC J2 _).eC J2 _).eC J2 _).eC J2 _;replace RQ:=zH (RQ.o.kp (w':=(((((w9.setCell (Y w.1.size 0) (I (f'+1))).setCell (Y w.1.size 1) (I c')).setCell (Y w.1.size 2) (I t')).setCell (Y w.1.size 3) (I 0)).setCell (Y w.1.size 4) (I 0))) uL);generalize ez (ez (ez (ez (ez w9 _ _) _ _) _ _) _ _) _ _=W9 at *;obtain⟨c7,f7,z7⟩:=b9.all;obtain⟨⟨c0,f0,z0⟩,⟨c1,f1,z1⟩,⟨c2,f2,z2⟩,⟨c3,f3,z3⟩,⟨c4,f4,z4⟩,⟨c5,f5,z5⟩,⟨c6,f6,z6⟩⟩:=F9.o.all;open akb in exact Pe
 ):ρ:=h
def akc.Yp(h:ρ:=by
 simp only at k0 k1 k2 k3 k4 k5 k6 hk h9;subst h9 hk;have qZ:eF=[]:=by
  simp[Pl.fj] at fF
  exact fF.1.2
 subst qZ;have⟨q1,q2,q3,q4⟩:b<w.1.size+1/\b<w.1.size+1+1/\b<w.1.size+1+1+1/\b<w.1.size+1+1+1+1:=oM;replace IH:=zH IH;have HE:=zH h;have F0:=zH (Fe.new (w:=w) (fA mf mc ms 0 0) (uC ⟨lf,lc,lr,ls⟩ u) (tE ⟨3,[],nm,⟨9,fa,fb,fn⟩⟩ an cn) nN nN);open an8 in exact aa2
 ):ρ:=h
def abi{K:Ks}{P:nK}{w:Wd}{u:UV}{G:Gb}{own:List Ar}{eO:Option Pl.Tv}{d:Nat}(H:KS K)(O:KO K)(L:Lm)(hL:kJ L)(m:Ms)(h:Eu K P w u G own eO d)(hP:∀b,P b->b<w.1.size)(c:List Sv)(b o cp i:Nat)(s:Sv)(hs:c[i]? = a_ s)(pN:c.length<=1048576)(hk:s.k=3)(hb:b<w.1.size)(an:oA)(cn:Nat)(sp:jE w.1.size w b (o+i * 7) s an cn)
  (fF:Pl.fj s=b_) (a:Ar) (m':Ms) (call:lJ->List Ar->Ms->Pl.Rs) (IH:∀W,Bl w W->Cp 49 #[eW m.f m.c m.s 0 0,uV L u,sX (sY b o) c.length cp,I ((i:Int)-1)] W (EPost K P W (.ok a,m'))) (h9:s.fn.k=9) (hf:¬L.f<=m'.f) :
  Cp 49 #[eW m.f m.c m.s 0 0,uV L u,sX (sY b o) c.length cp,I (i:Int)] w (EPost K P w (iQ L m' (qG K.k1 L call s a))):=by
 have⟨r,HR⟩:∃r,Hid (r=iQ L m' (qG K.k1 L call s a)):=⟨_,rfl⟩;rw[<- HR.o];open akc in exact Zw
def anm.ο(h:ρ:=by
 simp only at k0 k1 k2 k3 k4 k5 k6 hk;subst hk;have⟨q1,q2,q3,q4⟩:b<w.1.size+1/\b<w.1.size+1+1/\b<w.1.size+1+1+1/\b<w.1.size+1+1+1+1:=oM;have wi:IntKind.i64.wrap ((i:Int)-1)=(i:Int)-1:=by rw[lj];omega
 have wj:IntKind.i64.wrap ((j:Int)-1)=(j:Int)-1:=by rw[lj];omega
 rw[<- wi] at HS;rw[<- wj] at IH;clear wi wj;replace IH:=zH IH;replace HS:=zH HS;have F0:=zH (Fe.new (w:=w) (fA mf mc ms 0 0) (uC ⟨lf,lc,lr,ls⟩ u) (tE ⟨4,eF,nm,⟨fk,fa,fb,fn⟩⟩ an cn) nN nN);go_enter func49,ntmps49;go_upto_region 7 with fail
 have j8:w.1.size+7<=(((((((w.alloc (.cells (fA mf mc ms 0 0) 64)).alloc (.cells (uC ⟨lf,lc,lr,ls⟩ u) 62)).alloc (.cells nN 30)).alloc (.cells (fA 0 0 0 0 0) 64)).alloc (.cells (tE ⟨4,eF,nm,⟨fk,fa,fb,fn⟩⟩ an cn) 118)).alloc (.cells nN 30)).alloc (.cells nN 30)).1.size:=sI;have Bl:=zH F0.o.bl;clear k0 k1 k2 k3 k4 k5 k6;generalize ew (ew (ew (ew (ew (ew (ew w _) _) _) _) _) _) _=W0 at *;obtain⟨⟨d0,f0,z0⟩,⟨d1,f1,z1⟩,⟨d2,f2,z2⟩,⟨d3,f3,z3⟩,⟨d4,f4,z4⟩,⟨d5,f5,z5⟩,⟨d6,f6,z6⟩⟩:=F0.o.all;clear d2 f2 z2 d3 f3 z3 d6 f6 d4 f4 z4;go_cut [49] from 38 to 49 (λ_ wy=>∃a0 n0 c0 a1 n1 c1 s1,Fe w (fA m'.f m'.c s1 kd x) (uC ⟨lf,lc,lr,ls⟩ u) (tE ⟨4,eF,nm,⟨fk,fa,fb,fn⟩⟩ an cn) #[sX a0 n0 c0,sX a1 n1 c1] nN wy/\gL m'/\¬kd=0)
 case first =>
  go_region_with (first | (go_at_call 67;with_reducible refine(HS.o _ Bl.o.drew).mono ?_;rintro e w1 ⟨rfl,rfl⟩) | (go_at_call 49;refine(IH.o _ Bl.o.drew).mono ?_;rintro e w1 ⟨hb1,gJ,ru,a0,n0,c0,a1,n1,c1,s1,rfl⟩;have F1:=zH (F0.o.call (iq hb1));clear d0 f0 z0 d1 f1 z1 d5 f5 z5 hb1;obtain⟨d0,f0,z0⟩:=F1.o.b0.all;obtain⟨d5,f5,z5⟩:=F1.o.b5.all))
  all_goals
   go_wp2;go_meet
   exact⟨_,_,_,_,_,_,_,(F1.o.pw _ _).st _ _ _ _ _,gJ,ru⟩
 case rest =>
  obtain⟨a0,n0,c0,a1,n1,c1,s1,F2,gJ,ru⟩:=hcut;replace F2:=zH F2;have gp:(kd == 0)=d_:=gR.2 ru;clear F0 Bl IH HS d0 f0 z0 d1 f1 z1 d5 f5 z5 j8;obtain⟨⟨d0,f0,z0⟩,⟨d1,f1,z1⟩,⟨d2,f2,z2⟩,⟨d3,f3,z3⟩,⟨d4,f4,z4⟩,⟨d5,f5,z5⟩,⟨d6,f6,z6⟩⟩:=F2.o.all;clear d1 f1 z1 d4 f4 z4 d6 f6 z6;go_wp2_with fail;go_region
  all_goals
   clear d0 f0 z0 f2 z2 f3 z3 d5 f5 z5;go_wp2;refine eJ J9 rfl ?_;have:=F2.o.bl;exact⟨gG,gJ,ru,_,_,_,_,_,_,_,rfl⟩
 ):ρ:=h
def abK{K:Ks}{P:nK}{w:Wd}{u:UV}{G:Gb}{own:List Ar}{eO:Option Pl.Tv}{d:Nat}(L:Lm)(m:Ms)(hP:∀b,P b->b<w.1.size)(c:List Sv)(b o cp i:Nat)(s:Sv)(hs:c[i]? = a_ s)(pN:c.length<=1048576)(hk:s.k=4)(hb:b<w.1.size)(an:oA)(cn:Nat)(sp:jE w.1.size w b (o+i * 7) s an cn)
  (kd x:Int) (m':Ms) (j:Nat) (hj:j<=1048576) (HS:∀W,Bl w W->Cp 67 #[sX (sY b o) c.length cp,I ((i:Int)-1)] W λe w'=>e=rT (I (j:Int))/\w'=W) (IH:∀W,Bl w W->Cp 49 #[eW m.f m.c m.s 0 0,uV L u,sX (sY b o) c.length cp,I ((j:Int)-1)] W (EPost K P W (.error (kd,x),m'))) :
  Cp 49 #[eW m.f m.c m.s 0 0,uV L u,sX (sY b o) c.length cp,I (i:Int)] w (EPost K P w (.error (kd,x),m')):=by
 open anm in exact aao
end Go.Proofs.YtiagfejlmafliaaGreatDoor
