import Derived.Test.YtiagfejlmafliaaGreatDoorRi
namespace Go.Proofs.YtiagfejlmafliaaGreatDoor
set_option linter.all false
open Go.Proofs.Tryz Pl
open Go.RowKit
set_option maxRecDepth 100000
set_option maxHeartbeats 16000000
open Pl (Ar)
open World renaming setCell->ez,alloc->ew
open List renaming range->eA,replicate->eE
open Option renaming some->a_,none->c_
open Bool renaming true->b_,false->d_
variable {ρ:Prop}
def uL{P:nK}{w w':Wd}(h:Kp P w w':=by repeat' (first | with_reducible exact Kp.refl _ _ | with_reducible assumption | with_reducible refine Kp.set ?_ ?_ _ | with_reducible refine Kp.drew ?_ | with_reducible refine Kp.alloc ?_ _ | (simp;done) | (simp;omega))):Kp P w w':=h
def NJ{K:Ks}{P:nK}{w:Wd}{L:Lm}(hL:kJ L){m:Ms}(hm:gL m){a:Ar}{n:Nat}(hn:a.2.length=n)(hl:n<=1000):
  ∃C Kd:Int,Hid (∀(v0:Va)(x:oA) (y:Nat) (W:Wd),Cp 80 #[eW m.f m.c m.s 0 0,jO L,.agg #[v0,sX x n y]] W (rB (eW m.f C m.s Kd 0) W)) /\
   Hid (∀(s0 s1:Va)(W:Wd),Bl w W->RO K (λb=>P b\/w.1.size<=b) W s0 s1 a->EPost K P w (eG L a m) (rT (.tuple #[.agg #[s0,s1],eW m.f C m.s Kd 0])) W):=by
 subst hn;by_cases hc:L.c<m.c+a.2.length
 ·refine⟨m.c,4,λv0 x y W=>aeM _ _ _ _ L _ _ _ _ _ hm.c0 hm.c1 oM hc,λs0 s1 W hb hr=>?_⟩
  unfold eG;rw[eD hc];obtain⟨⟨x,y,rfl⟩,x',y',rfl⟩:=hr.1.eS;exact⟨hb,hm,sI,_,_,_,_,_,_,_,rfl⟩
 refine⟨m.c+a.2.length,0,λv0 x y W=>aeL _ _ _ _ L _ _ _ _ _ hm.c0 hm.c1 oM hc,λs0 s1 W hb hr=>?_⟩;unfold eG;rw[eB hc];exact⟨hb,⟨hm.f0,hm.f1,by have:=hm.c0;simp only;omega,by have:=hL.c;simp only;omega,hm.s0,hm.s1⟩,_,_,rfl,hr⟩
def ajV.On(h:ρ:=by
 go_region_held3 (λw'=>(w'.cell? (Y w.1.size 0)=a_ (I (mf+1))/\w'.cell? (Y w.1.size 1)=a_ (I mc)/\w'.cell? (Y w.1.size 2)=a_ (I ms)/\w'.cell? (Y w.1.size 3)=a_ (I 0)/\w'.cell? (Y w.1.size 4)=a_ (I 0))/\(w'.cell? (Y (w.1.size+1) 0)=a_ (I lf)/\w'.cell? (Y (w.1.size+1) 1)=a_ (I lc)/\w'.cell? (Y (w.1.size+1) 2)=a_ (.bool lr)/\w'.cell? (Y (w.1.size+1) 3)=a_ (I ls))/\w'.cell? (Y Z 0)=a_ (sX x0 0 0)/\w'.cell? (Y Z 1)=a_ (sX x1 1 y1)) (go_keep) (first | (go_at_call 80;refine(KK.o _ _ _ _).mono ?_;rintro e w7 ⟨rfl,hb⟩;have F7:=zH (F6.o.call (iq hb));have⟨d0,g0,l0⟩:=F7.o.b0.all;have⟨d1,g1,l1⟩:=F7.o.b1.all;have⟨d2,g2,l2⟩:=F7.o.b2.all;have⟨d3,g3,l3⟩:=F7.o.b3.all;have⟨d7,g7,l7⟩:=(b8.below (iq hb)).all;have TV:=zH (RQ.o.kp (.of (iq hb)))))
 all_goals
  go_wp2;refine eJ J9 rfl ?_;have:=F7.o.bl;refine HP.o _ _ _ gG ((TV.o.kp uL).mono λb h _=>.inr oM)
 ):ρ:=h
def ang.Qd(h:ρ:=by
 refine(sH _ eF W2 (j'.rw ((RN.o.eG F2.o.bl).up F2.o.bl.size)) oM).mono ?_;rintro e w3 ⟨hb,x0,y0,x1,y1,rfl,ra⟩;have Et:w.1.size<=W2.1.size:=F2.o.bl.size;have F3:=F2.o.call hb;have z6:=F3.b6.lt;have zW:=F2.o.b6.lt;have ra':RA (w.1.size+7<=·) w3 (sX x0 1 y0) (sX x1 eF.length y1) ([(eF.length:Int)],eF):=ra.mono λb h _=>oM;have F4:=zH (F3.call (W':=w3.alloc (.cells #[sX x0 1 y0,sX x1 eF.length y1] 30)) gG);have b7:Bx (w3.alloc (.cells #[sX x0 1 y0,sX x1 eF.length y1] 30)) w3.1.size #[sX x0 1 y0,sX x1 eF.length y1] 30:=.eK rfl;have R4:=zH (ra'.kp (w':=w3.alloc (.cells #[sX x0 1 y0,sX x1 eF.length y1] 30)) eY);have R3:=zH ra.2;obtain⟨⟨c0,f0,z0⟩,⟨c1,f1,z1⟩,⟨c2,f2,z2⟩,⟨c3,f3,z3⟩,⟨c4,f4,z4⟩,⟨c5,f5,z5⟩,⟨c6,f6,z6⟩⟩:=F3.all;by_cases h1:eF.length=1
 ·obtain⟨v,rfl⟩:∃v,eF=[v]:=zx.1 h1
  have F4:=zH ((F3.call (W':=w3.alloc (.cells #[sX (sY (w3.1.size+1) 0) 0 0,sX x1 1 y1] 30)) gG).call (W':=(w3.alloc (.cells #[sX (sY (w3.1.size+1) 0) 0 0,sX x1 1 y1] 30)).alloc (.cells #[] 3)) gG);have b7:Bx ((w3.alloc (.cells #[sX (sY (w3.1.size+1) 0) 0 0,sX x1 1 y1] 30)).alloc (.cells #[] 3)) w3.1.size #[sX (sY (w3.1.size+1) 0) 0 0,sX x1 1 y1] 30:=.al (.eK rfl) _;have RQ:Hid (RO K (w.1.size+7<=·) ((w3.alloc (.cells #[sX (sY (w3.1.size+1) 0) 0 0,sX x1 1 y1] 30)).alloc (.cells #[] 3)) (sX (sY (w3.1.size+1) 0) 0 0) (sX x1 1 y1) (oK [v])):=⟨⟨⟨_,_,rfl,jR _,oM,.inl rfl⟩,(R3.o.mono λb h _=>oM).kp uL⟩,OKN.o⟩;go_wp2_with fail;generalize ew (ew w3 _) _=W4 at *;generalize (sY (w3.1.size+1) 0:oA)=x0 at *;generalize w3.1.size=Z at *;refine(C9 (mf+1) mc ms 0 0 W4).mono ?_;rintro e w5 ⟨rfl,hb⟩;have F5:=zH (F4.o.call hb);replace b7:=b7.below hb;replace RQ:=zH (RQ.o.kp (.of hb));obtain⟨⟨c0,f0,z0⟩,⟨c1,f1,z1⟩,⟨c2,f2,z2⟩,⟨c3,f3,z3⟩,⟨c4,f4,z4⟩,⟨c5,f5,z5⟩,⟨c6,f6,Q_⟩⟩:=F5.o.all;go_wp2_with fail;have F6:=zH (F5.o.st (mf+1) mc ms 0 0);have b8:Bx (((((w5.setCell (Y w.1.size 0) (I (mf+1))).setCell (Y w.1.size 1) (I mc)).setCell (Y w.1.size 2) (I ms)).setCell (Y w.1.size 3) (I 0)).setCell (Y w.1.size 4) (I 0)) Z _ 30:=((((b7.eC J2 _).eC J2 _).eC J2 _).eC J2 _).eC J2 _;replace RQ:=zH (RQ.o.kp (w':=(((((w5.setCell (Y w.1.size 0) (I (mf+1))).setCell (Y w.1.size 1) (I mc)).setCell (Y w.1.size 2) (I ms)).setCell (Y w.1.size 3) (I 0)).setCell (Y w.1.size 4) (I 0))) uL);generalize ez (ez (ez (ez (ez w5 _ _) _ _) _ _) _ _) _ _=W6 at *;obtain⟨c7,f7,z7⟩:=b8.all;obtain⟨⟨c0,f0,z0⟩,⟨c1,f1,z1⟩,⟨c2,f2,z2⟩,⟨c3,f3,z3⟩,⟨c4,f4,z4⟩,⟨c5,f5,z5⟩,⟨c6,f6,Q_⟩⟩:=F6.o.all;open ajV in exact Pe
 ·have Cw:((eF.length:Int) == 1)=d_:=by rw[gR];omega
  have AN:Hid (oK eF=([(eF.length:Int)],eF)):=by simp[Hid,oK,h1]
  have RQ:Hid (RO K (w.1.size+7<=·) (w3.alloc (.cells #[sX x0 1 y0,sX x1 eF.length y1] 30)) (sX x0 1 y0) (sX x1 eF.length y1) (oK eF)):=⟨AN.o ▸ R4.o,OKN.o⟩
  focus
   go_wp2_with fail;generalize w3.alloc _=W4 at *;generalize w3.1.size=Z at *;refine(C9 (mf+1) mc ms 0 0 W4).mono ?_;rintro e w5 ⟨rfl,hb⟩;have F5:=zH (F4.o.call hb);replace b7:=b7.below hb;replace RQ:=zH (RQ.o.kp (.of hb));obtain⟨⟨c0,f0,z0⟩,⟨c1,f1,z1⟩,⟨c2,f2,z2⟩,⟨c3,f3,z3⟩,⟨c4,f4,z4⟩,⟨c5,f5,z5⟩,⟨c6,f6,Q_⟩⟩:=F5.o.all;go_wp2_with fail;have F6:=zH (F5.o.st (mf+1) mc ms 0 0);have b8:Bx (((((w5.setCell (Y w.1.size 0) (I (mf+1))).setCell (Y w.1.size 1) (I mc)).setCell (Y w.1.size 2) (I ms)).setCell (Y w.1.size 3) (I 0)).setCell (Y w.1.size 4) (I 0)) Z _ 30:=((((b7.eC J2 _).eC J2 _).eC J2 _).eC J2 _).eC J2 _;replace RQ:=zH (RQ.o.kp (w':=(((((w5.setCell (Y w.1.size 0) (I (mf+1))).setCell (Y w.1.size 1) (I mc)).setCell (Y w.1.size 2) (I ms)).setCell (Y w.1.size 3) (I 0)).setCell (Y w.1.size 4) (I 0))) uL);generalize ez (ez (ez (ez (ez w5 _ _) _ _) _ _) _ _) _ _=W6 at *;obtain⟨c7,f7,z7⟩:=b8.all;obtain⟨⟨c0,f0,z0⟩,⟨c1,f1,z1⟩,⟨c2,f2,z2⟩,⟨c3,f3,z3⟩,⟨c4,f4,z4⟩,⟨c5,f5,z5⟩,⟨c6,f6,Q_⟩⟩:=F6.o.all;have⟨i0,i1,i2,i3,i4,i5,i6,i7⟩:¬Z=w.1.size+1+1/\¬Z=w.1.size+1+1+1/\¬w.1.size+1+1=Z/\¬w.1.size+1+1+1=Z/\¬w.1.size=w.1.size+1+1/\¬w.1.size=w.1.size+1+1+1/\¬w.1.size+1+1=w.1.size/\¬w.1.size+1+1+1=w.1.size:=oM;go_region_held3 (λw'=>(w'.cell? (Y w.1.size 0)=a_ (I (mf+1))/\w'.cell? (Y w.1.size 1)=a_ (I mc)/\w'.cell? (Y w.1.size 2)=a_ (I ms)/\w'.cell? (Y w.1.size 3)=a_ (I 0)/\w'.cell? (Y w.1.size 4)=a_ (I 0))/\(w'.cell? (Y (w.1.size+1) 0)=a_ (I lf)/\w'.cell? (Y (w.1.size+1) 1)=a_ (I lc)/\w'.cell? (Y (w.1.size+1) 2)=a_ (.bool lr)/\w'.cell? (Y (w.1.size+1) 3)=a_ (I ls))/\w'.cell? (Y Z 0)=a_ (sX x0 1 y0)/\w'.cell? (Y Z 1)=a_ (sX x1 eF.length y1)) (go_keep) (first | (go_at_call 80;refine(KK.o _ _ _ _).mono ?_;rintro e w7 ⟨rfl,hb⟩;have F7:=zH (F6.o.call (iq hb));have⟨d0,g0,l0⟩:=F7.o.b0.all;have⟨d1,g1,l1⟩:=F7.o.b1.all;have⟨d2,g2,l2⟩:=F7.o.b2.all;have⟨d3,g3,l3⟩:=F7.o.b3.all;have⟨d7,g7,l7⟩:=(b8.below (iq hb)).all;have TV:=zH (RQ.o.kp (.of (iq hb)))))
   all_goals
    go_wp2;refine eJ J9 rfl ?_;have:=F7.o.bl;refine HP.o _ _ _ gG ((TV.o.kp uL).mono λb h _=>.inr oM)
 ):ρ:=h
def adJ{K:Ks}{P:nK}{w:Wd}{u:UV}{G:Gb}{own:List Ar}{eO:Option Pl.Tv}{d:Nat}(O:KO K)(L:Lm)(hL:kJ L)(m:Ms)(hm:gL m)(hP:∀b,P b->b<w.1.size)(h:Eu K P w u G own eO d)(c:List Sv)(b o cp i:Nat)(s:Sv)(hs:c[i]? = a_ s)(pN:c.length<=1048576)(fF:Pl.fj s=b_)(hk:s.k=1)(hf:¬L.f<=m.f)(hb:b<w.1.size)(an:oA)(cn:Nat)(sp:jE w.1.size w b (o+i * 7) s an cn):
  Cp 49 #[eW m.f m.c m.s 0 0,uV L u,sX (sY b o) c.length cp,I (i:Int)] w (EPost K P w (eG L (oK s.eF) ⟨m.f+1,m.c,m.s⟩)):=by
 obtain⟨mf,mc,ms⟩:=m;obtain⟨lf,lc,lr,ls⟩:=L;obtain⟨k0,k1,k2,k3,k4,k5,k6,rn⟩:=sp;have Lx:(i:Int)<(c.length:Int):=by have:=(gQ.1 hs).1;omega
 have RN:=zH rn;have hnb:k_ s.eF=b_:=by
  unfold Pl.fj at fF;rw[eD hk] at fF;simp only[fO] at fF;exact fF.1.1
 have Lp:s.eF.length<=1000:=(O.len _ (O.eF _ hnb)).2;have OKN:=zH (O.eF _ hnb);have⟨C,Kd,KK,HP⟩:=NJ (K:=K) (P:=P) (w:=w) hL (m:=⟨mf+1,mc,ms⟩) ⟨by have:=hm.f0;simp only at this ⊢;omega,by have:=hL.f;simp only at this hf ⊢;omega,hm.c0,hm.c1,hm.s0,hm.s1⟩ (a:=oK s.eF) rfl Lp;generalize hn:c.length=n at *;obtain⟨sk,eF,nm,fk,fa,fb,fn⟩:=s;simp only at k0 k1 k2 k3 k4 k5 k6 hk Lp hf hm;subst hk;have⟨q1,q2,q3,q4⟩:b<w.1.size+1/\b<w.1.size+1+1/\b<w.1.size+1+1+1/\b<w.1.size+1+1+1+1:=oM;have jv:=hm.f0;have hmc:=hm.c0;have aoV:=hm.c1;simp only at jv hmc aoV;have F0:=zH (Fe.new (w:=w) (fA mf mc ms 0 0) (uC ⟨lf,lc,lr,ls⟩ u) (tE ⟨1,eF,nm,⟨fk,fa,fb,fn⟩⟩ an cn) nN nN);go_enter func49,ntmps49;open ang in exact QF
section
variable {w:Wd}
def Bx.fa{b:Nat}{cs:aV}{t:TypeId}(h:Bx w b cs t){p:Addr}(u:Va)(hp:¬b=p.block:=by first | (simp;done) | (simp;omega)):Bx (w.setCell p u) b cs t:=h.eC hp u
def Fe.pw{W:Wd}{c0 c1 c4 c6:aV}{p q:Va}(h:Fe w c0 c1 c4 #[p,q] c6 W)(p' q':Va):Fe w c0 c1 c4 #[p',q'] c6 ((W.setCell (Y (w.1.size+1+1+1+1+1) 0) p').setCell (Y (w.1.size+1+1+1+1+1) 1) q'):=by
 have:=h.bl;exact⟨gG,(h.b0.fa _).fa _,(h.b1.fa _).fa _,(h.b2.fa _).fa _,(h.b3.fa _).fa _,(h.b4.fa _).fa _,(h.b5.set 0 _).set 1 _,(h.b6.fa _).fa _⟩
def ann.ο(h:ρ:=by
 simp only at k0 k1 k2 k3 k4 k5 k6 hk;subst hk;have⟨q1,q2,q3,q4⟩:b<w.1.size+1/\b<w.1.size+1+1/\b<w.1.size+1+1+1/\b<w.1.size+1+1+1+1:=oM;replace IH:=zH IH;have F0:=zH (Fe.new (w:=w) (fA mf mc ms 0 0) (uC ⟨lf,lc,lr,ls⟩ u) (tE ⟨3,eF,nm,⟨fk,fa,fb,fn⟩⟩ an cn) nN nN);go_enter func49,ntmps49;go_wp2_with fail;refine(IH.o _ F0.o.bl).mono ?_;rintro e w1 ⟨hb1,gJ,ru,a0,n0,c0,a1,n1,c1,s1,rfl⟩;obtain⟨f',c',s'⟩:=m';simp only;have F1:=zH (F0.o.call hb1);obtain⟨⟨d0,f0,z0⟩,⟨d1,f1,z1⟩,⟨d2,f2,z2⟩,⟨d3,f3,z3⟩,⟨d4,f4,z4⟩,⟨d5,f5,z5⟩,⟨d6,f6,z6⟩⟩:=F1.o.all;have gp:(kd == 0)=d_:=gR.2 ru;go_wp2_with fail;have F2:=zH ((F1.o.pw (sX a0 n0 c0) (sX a1 n1 c1)).st f' c' s1 kd x);generalize ez (ez (ez (ez (ez (ez (ez w1 _ _) _ _) _ _) _ _) _ _) _ _) _ _=W2 at *;obtain⟨⟨d0,f0,z0⟩,⟨d1,f1,z1⟩,⟨d2,f2,z2⟩,⟨d3,f3,z3⟩,⟨d4,f4,z4⟩,⟨d5,f5,z5⟩,⟨d6,f6,z6⟩⟩:=F2.o.all;go_region
 all_goals
  go_wp2;refine eJ J9 rfl ?_;have:=F2.o.bl;exact⟨gG,gJ,ru,_,_,_,_,_,_,_,rfl⟩
 ):ρ:=h
def abt{K:Ks}{P:nK}{u:UV}{G:Gb}{own:List Ar}{eO:Option Pl.Tv}{d:Nat}(L:Lm)(m:Ms)(hP:∀b,P b->b<w.1.size)(c:List Sv)(b o cp i:Nat)(s:Sv)(hs:c[i]? = a_ s)(pN:c.length<=1048576)(hk:s.k=3)(hb:b<w.1.size)(an:oA)(cn:Nat)(sp:jE w.1.size w b (o+i * 7) s an cn)
  (kd x:Int) (m':Ms) (IH:∀W,Bl w W->Cp 49 #[eW m.f m.c m.s 0 0,uV L u,sX (sY b o) c.length cp,I ((i:Int)-1)] W (EPost K P W (.error (kd,x),m'))) :
  Cp 49 #[eW m.f m.c m.s 0 0,uV L u,sX (sY b o) c.length cp,I (i:Int)] w (EPost K P w (.error (kd,x),m')):=by
 open ann in exact aao
end
variable {K:Ks}{w w':Wd}{r:Pl.Rs}{e:Ending}
def EPost.form{P:nK}(h:EPost K P w r e w'):∃a0 n0 c0 a1 n1 c1 f c s k x,e=rT (.tuple #[.agg #[sX a0 n0 c0,sX a1 n1 c1],eW f c s k x]):=by
 obtain⟨_,_,h⟩:=h;obtain⟨q,m⟩:=r
 cases q with
 |ok a =>
  obtain⟨u0,u1,rfl,ro⟩:=h;obtain⟨⟨x,y,rfl⟩,x',y',rfl⟩:=ro.1.eS;exact⟨_,_,_,_,_,_,_,_,_,_,_,rfl⟩
 |error q =>
  obtain⟨k,x⟩:=q;obtain⟨_,a0,n0,c0,a1,n1,c1,s',rfl⟩:=h;exact⟨_,_,_,_,_,_,_,_,_,_,_,rfl⟩
def EPost.move{P Q:nK}{W W':Wd}(h:EPost K Q W r e w')(k:Kp (λb=>Q b\/W.1.size<=b) w' W')(hb:Bl w W')(hq:∀b,Q b\/W.1.size<=b->P b\/w.1.size<=b):EPost K P w r e W':=by
 obtain⟨_,hm,h⟩:=h;obtain⟨q,m⟩:=r;refine⟨hb,hm,?_⟩
 cases q with
 |ok a =>
  obtain⟨u0,u1,rfl,ro⟩:=h;exact⟨u0,u1,rfl,(ro.kp k).mono λb h _=>hq b h⟩
 |error q=>exact h
def aiK.Oj(h:ρ:=by
 refine(HC.o (λb=>(P b\/w.1.size+7<=b)/\b<W4.1.size) W4 _ _ fn ⟨f'+1,c',s'⟩ nI F4.o.bl (λb h=>⟨.inl h,jL (hP b h) F4.o.bl.size⟩) (λb h=>h.2) (pX.o.mono λb h hl=>⟨h,hl⟩)).mono ?_;rintro e w5 hp;have HQ:=zH hp;have kV:=hp.1;obtain⟨a0,n0,c0,a1,n1,c1,f5,c5,s5,k5,x5,rfl⟩:=hp.form;have F5:=zH (F4.o.call kV);have zW:=F4.o.b6.lt;obtain⟨d2,f2,z2⟩:=F5.o.b2.all;obtain⟨d3,f3,z3⟩:=F5.o.b3.all;exact YY
 ):ρ:=h
def ake.Ot(h:ρ:=by
 have nI:gL ⟨f'+1,c',s'⟩:=⟨by simp only;omega,by have:=hL.f;simp only at this ⊢;omega,g2,g3,g4,g5⟩;obtain⟨⟨d0,f0,z0⟩,⟨d1,f1,z1⟩,⟨d2,f2,z2⟩,⟨d3,f3,z3⟩,⟨d4,f4,z4⟩,⟨d5,f5,z5⟩,⟨d6,f6,z6⟩⟩:=F3.o.all;by_cases mJ:fk=10
 ·subst mJ
  open aiK in exact OW
 ·exact absurd ⟨mJ,oM⟩ hq.o
 ):ρ:=h
def an9.aaA(h:ρ:=by
 by_cases hf:lf<=f'
 ·exact Zx
 ·rw[eB hf]
  replace HR:Hid (r=qG K.k1 ⟨lf,lc,lr,ls⟩ call ⟨3,eF,nm,⟨fk,fa,fb,fn⟩⟩ a ⟨f'+1,c',s'⟩):=HR.o.trans (eB hf);open ake in exact Pm
 ):ρ:=h
def akf.Yp(h:ρ:=by
 simp only at k0 k1 k2 k3 k4 k5 k6 hk hq;replace hq:=zH hq;subst hk;have⟨q1,q2,q3,q4⟩:b<w.1.size+1/\b<w.1.size+1+1/\b<w.1.size+1+1+1/\b<w.1.size+1+1+1+1:=oM;replace IH:=zH IH;replace HC:=zH HC;have HE:=zH h;have F0:=zH (Fe.new (w:=w) (fA mf mc ms 0 0) (uC ⟨lf,lc,lr,ls⟩ u) (tE ⟨3,eF,nm,⟨fk,fa,fb,fn⟩⟩ an cn) nN nN);open an9 in exact aa2
 ):ρ:=h
def adI{P:nK}{u:UV}{G:Gb}{own:List Ar}{eO:Option Pl.Tv}{d:Nat}(H:KS K)(O:KO K)(L:Lm)(hL:kJ L)(m:Ms)(h:Eu K P w u G own eO d)(hP:∀b,P b->b<w.1.size)(c:List Sv)(b o cp i:Nat)(s:Sv)(hs:c[i]? = a_ s)(pN:c.length<=1048576)(hk:s.k=3)(hb:b<w.1.size)(an:oA)(cn:Nat)(sp:jE w.1.size w b (o+i * 7) s an cn)
  (fF:Pl.fj s=b_) (a:Ar) (m':Ms) (call:lJ->List Ar->Ms->Pl.Rs) (IH:∀W,Bl w W->Cp 49 #[eW m.f m.c m.s 0 0,uV L u,sX (sY b o) c.length cp,I ((i:Int)-1)] W (EPost K P W (.ok a,m')))
  (HC:∀(Q:nK)(W:Wd) (u0 u1:Va) (nm:lJ) (m:Ms),gL m->Bl w W->(∀b,P b->Q b)->(∀b,Q b->b<W.1.size)->RO K Q W u0 u1 a->Cp 75 #[eW m.f m.c m.s 0 0,uV L u,.string (Pl.ba nm),I 1,.agg nN,.agg #[u0,u1]] W (EPost K Q W (call nm [a] m)))
  (HX:¬s.fn.k=10->¬L.f<=m'.f->Cp 49 #[eW m.f m.c m.s 0 0,uV L u,sX (sY b o) c.length cp,I (i:Int)] w (EPost K P w (iQ L m' (qG K.k1 L call s a)))) :
  Cp 49 #[eW m.f m.c m.s 0 0,uV L u,sX (sY b o) c.length cp,I (i:Int)] w (EPost K P w (iQ L m' (qG K.k1 L call s a))):=by
 by_cases hq:¬s.fn.k=10/\¬L.f<=m'.f
 ·exact HX hq.1 hq.2
 have⟨r,HR⟩:∃r,Hid (r=iQ L m' (qG K.k1 L call s a)):=⟨_,rfl⟩;rw[<- HR.o];open akf in exact Zw
end Go.Proofs.YtiagfejlmafliaaGreatDoor
