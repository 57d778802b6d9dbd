import Derived.Test.YtiagfejlmafliaaGreatDoorRpb
import Derived.Test.YtiagfejlmafliaaGreatDoorRo
namespace Go.Proofs.YtiagfejlmafliaaGreatDoor
set_option linter.all false
open Go.Proofs.Tryz Pl
open Go.RowKit
set_option maxRecDepth 100000
set_option maxHeartbeats 16000000
open Pl (Ar)
open World renaming setCell->ez,alloc->ew
open List renaming range->eA,replicate->eE
open Option renaming some->a_,none->c_
open Bool renaming true->b_,false->d_
variable {ρ:Prop}
def aiI.Oj(h:ρ:=by
 refine(sH (P:=P) _ [] W4 ⟨_,_,rfl,.inl rfl⟩ sI).mono ?_;rintro e w5 ⟨hb,x4,y4,x5,y5,rfl,_⟩;have F5:=F4.o.call hb;have zB5:=F5.b6.lt;replace F4:=zH (F5.call (W':=w5.alloc (.cells #[sX x4 1 y4,sX x5 0 y5] 30)) gG);have b7:Bx (w5.alloc (.cells #[sX x4 1 y4,sX x5 0 y5] 30)) w5.1.size #[sX x4 1 y4,sX x5 0 y5] 30:=.eK rfl;replace pX:=zH ((pX.o.kp (.of hb)).kp (w':=w5.alloc (.cells #[sX x4 1 y4,sX x5 0 y5] 30)) eY);replace E':=zH ((E'.o.kp (.of hb)).kp (w':=w5.alloc (.cells #[sX x4 1 y4,sX x5 0 y5] 30)) eY);obtain⟨⟨d0,f0,z0⟩,⟨d1,f1,z1⟩,⟨d2,f2,z2⟩,⟨d3,f3,z3⟩,⟨d4,f4,z4⟩,⟨d5,f5,z5⟩,⟨d6,f6,z6⟩⟩:=F5.all;go_wp2_with fail;generalize w5.alloc _=W5,w5.1.size=Z at *;have lZ:=b7.lt;refine(aeJ H ⟨fk,fa,fb,fn⟩ _ _ _ _ l a W5 E'.o pX.o).mono ?_;rintro e w6 hk;obtain⟨x6,y6,x7,y7,rfl,RR,hb⟩:=hk.open;replace F4:=zH (F4.o.call hb);replace b7:=b7.below hb;generalize K.k2 ⟨fk,fa,fb,fn⟩ l a=r6 at *;exact aa3
 ):ρ:=h
def akz.Ow(h:ρ:=by
 go_cut [49] from 38 to 49 (λ_ wy=>∃a0 n0 e0 a1 n1 e1 f5 c5 s5 k5 x5 w1,EPost K P W0.drew (.ok a,m') (rT (.tuple #[.agg #[sX a0 n0 e0,sX a1 n1 e1],eW f5 c5 s5 k5 x5])) w1/\wy=((((((w1.setCell (Y (w.1.size+1+1+1+1+1) 0) (sX a0 n0 e0)).setCell (Y (w.1.size+1+1+1+1+1) 1) (sX a1 n1 e1)).setCell (Y w.1.size 0) (I f5)).setCell (Y w.1.size 1) (I c5)).setCell (Y w.1.size 2) (I s5)).setCell (Y w.1.size 3) (I k5)).setCell (Y w.1.size 4) (I x5))
 case first =>
  exact Qt
 case rest =>
  obtain⟨x0,n0,y0,x1,n1,y1,f5,c5,s5,k5,x5,w1,hp,rfl⟩:=hcut;obtain⟨⟨rfl,rfl,rfl,rfl,rfl,rfl,rfl⟩,hb1,gJ,RR⟩:=hp.Rx;have F2:=((F0.o.call (iq hb1)).pw (sX x0 a.1.length y0) (sX x1 a.2.length y1)).st m'.f m'.c m'.s 0 0;have ro:=(RR.o.mono (Q:=λb=>P b\/w.1.size+7<=b) λb h _=>h.imp id λh=>jT j8 h).kp (w':=((((((w1.setCell (Y (w.1.size+1+1+1+1+1) 0) (sX x0 a.1.length y0)).setCell (Y (w.1.size+1+1+1+1+1) 1) (sX x1 a.2.length y1)).setCell (Y w.1.size 0) (I m'.f)).setCell (Y w.1.size 1) (I m'.c)).setCell (Y w.1.size 2) (I m'.s)).setCell (Y w.1.size 3) (I 0)).setCell (Y w.1.size 4) (I 0)) J4;generalize ez (ez (ez (ez (ez (ez (ez w1 _ _) _ _) _ _) _ _) _ _) _ _) _ _=wx at *;have zB:=F2.b6.lt;have R2:=zH ro;replace F2:=zH F2;obtain⟨⟨d0,f0,z0⟩,⟨d1,f1,z1⟩,⟨d2,f2,z2⟩,⟨d3,f3,z3⟩,⟨d4,f4,z4⟩,⟨d5,f5,z5⟩,⟨d6,f6,z6⟩⟩:=F2.o.all;go_wp2_with fail;refine(IL.o (λb=>(P b\/w.1.size+7<=b)/\b<wx.1.size) _ gJ F2.o.bl (λb h=>⟨.inl h,jL (hP b h) F2.o.bl.size⟩) (λb h=>h.2)).mono ?_;rintro e w2 hp;have F3:=zH (F2.o.call hp.1);replace R2:=zH (R2.o.kp (.of hp.1));obtain⟨f',c',s'⟩:=m2;simp only at hf;obtain⟨hb2,fY,u0,u1,rfl,ro⟩:=hp;obtain⟨⟨x2,y2,rfl⟩,x3,y3,rfl⟩:=ro.1.eS;simp only at fY ⊢;replace HR:Hid (r=iQ ⟨lf,lc,lr,ls⟩ ⟨f',c',s'⟩ (Pl.mi K.k2 ⟨lf,lc,lr,ls⟩ call ⟨4,[],nm,⟨fk,fa,fb,fn⟩⟩ l a)):=HR.o;have oY:=zH (R2.o.kp (w':=((((((w2.setCell (Y (w.1.size+1+1+1+1+1+1) 0) (sX x2 l.1.length y2)).setCell (Y (w.1.size+1+1+1+1+1+1) 1) (sX x3 l.2.length y3)).setCell (Y w.1.size 0) (I f')).setCell (Y w.1.size 1) (I c')).setCell (Y w.1.size 2) (I s')).setCell (Y w.1.size 3) (I 0)).setCell (Y w.1.size 4) (I 0)) J4);have Ai:=zH ((ro.mono (Q:=λb=>P b\/w.1.size+7<=b) λb h _=>h.elim (λh=>h.1) (λh=>.inr oM)).kp (w':=((((((w2.setCell (Y (w.1.size+1+1+1+1+1+1) 0) (sX x2 l.1.length y2)).setCell (Y (w.1.size+1+1+1+1+1+1) 1) (sX x3 l.2.length y3)).setCell (Y w.1.size 0) (I f')).setCell (Y w.1.size 1) (I c')).setCell (Y w.1.size 2) (I s')).setCell (Y w.1.size 3) (I 0)).setCell (Y w.1.size 4) (I 0)) J4);have F2:=zH ((F3.o.pa (sX x2 l.1.length y2) (sX x3 l.2.length y3)).st f' c' s' 0 0);have Et:=F3.o.bl;obtain⟨⟨d0,f0,z0⟩,⟨d1,f1,z1⟩,⟨d2,f2,z2⟩,⟨d3,f3,z3⟩,⟨d4,f4,z4⟩,⟨d5,f5,z5⟩,⟨d6,f6,z6⟩⟩:=F3.o.all;go_wp2_with fail;generalize ez (ez (ez (ez (ez (ez (ez w2 _ _) _ _) _ _) _ _) _ _) _ _) _ _=W2 at *;have gJ:=fY;have fY:=gJ;obtain⟨g0,g1,g2,g3,g4,g5⟩:=gJ;simp only at g0 g1 g2 g3 g4 g5;refine(Ay f' c' s' 0 0 ⟨lf,lc,lr,ls⟩ W2 g0 g1).k λw3 hb=>?_;replace oY:=zH (oY.o.kp (.of hb));replace Ai:=zH (Ai.o.kp (.of hb));have F3:=zH (F2.o.call hb);have uW:¬lf<=f':=oM;rw[eB uW];replace HR:Hid (r=Pl.mi K.k2 ⟨lf,lc,lr,ls⟩ call ⟨4,[],nm,⟨fk,fa,fb,fn⟩⟩ l a ⟨f'+1,c',s'⟩):=HR.o.trans (eB uW);have F4:=zH (F3.o.st (f'+1) c' s' 0 0);have pX:Hid (RO K (λb=>P b\/w.1.size+7<=b) (((((w3.setCell (Y w.1.size 0) (I (f'+1))).setCell (Y w.1.size 1) (I c')).setCell (Y w.1.size 2) (I s')).setCell (Y w.1.size 3) (I 0)).setCell (Y w.1.size 4) (I 0)) (sX x0 a.1.length y0) (sX x1 a.2.length y1) a):=oY.o.kp (by
   repeat' (first | with_reducible exact Kp.refl _ _ | with_reducible refine Kp.set ?_ ?_ _ | exact HN.o _ J6 J6))
  have E':Hid (RO K (λb=>P b\/w.1.size+7<=b) (((((w3.setCell (Y w.1.size 0) (I (f'+1))).setCell (Y w.1.size 1) (I c')).setCell (Y w.1.size 2) (I s')).setCell (Y w.1.size 3) (I 0)).setCell (Y w.1.size 4) (I 0)) (sX x2 l.1.length y2) (sX x3 l.2.length y3) l):=Ai.o.kp (by
   repeat' (first | with_reducible exact Kp.refl _ _ | with_reducible refine Kp.set ?_ ?_ _ | exact HN.o _ J6 J6))
  have nI:gL ⟨f'+1,c',s'⟩:=⟨by simp only;omega,by have:=hL.f;simp only at this ⊢;omega,g2,g3,g4,g5⟩;obtain⟨⟨d0,f0,z0⟩,⟨d1,f1,z1⟩,⟨d2,f2,z2⟩,⟨d3,f3,z3⟩,⟨d4,f4,z4⟩,⟨d5,f5,z5⟩,⟨d6,f6,z6⟩⟩:=F3.o.all;replace HR:Hid (r=fin ⟨lf,lc,lr,ls⟩ (K.k2 ⟨fk,fa,fb,fn⟩ l a) ⟨f'+1,c',s'⟩):=HR.o.trans (eB mJ);have e10:(fk == 10)=d_:=gR.2 mJ;open aiI in exact OW
 ):ρ:=h
def ai2.GI(h:ρ:=by
 simp only at k0 k1 k2 k3 k4 k5 k6 hk mJ hf;subst hk;have qZ:eF=[]:=by
  simp[Pl.fj] at fF
  exact fF.1.2
 subst qZ;have⟨q1,q2,q3,q4⟩:b<w.1.size+1/\b<w.1.size+1+1/\b<w.1.size+1+1+1/\b<w.1.size+1+1+1+1:=oM;replace IH:=zH IH;replace HS:=zH HS;replace IL:=zH IL;open akz in exact Po
 ):ρ:=h
def abq{K:Ks}{P:nK}{w:Wd}{u:UV}{G:Gb}{own:List Ar}{eO:Option Pl.Tv}{d:Nat}(H:KS K)(O:KO K)(L:Lm)(hL:kJ L)(m:Ms)(h:Eu K P w u G own eO d)(hP:∀b,P b->b<w.1.size)(c:List Sv)(b o cp i:Nat)(s:Sv)(hs:c[i]? = a_ s)(pN:c.length<=1048576)(hk:s.k=4)(hb:b<w.1.size)(an:oA)(cn:Nat)(sp:jE w.1.size w b (o+i * 7) s an cn)
  (fF:Pl.fj s=b_) (j:Nat) (hj:j<=1048576) (a:Ar) (m':Ms) (call:lJ->List Ar->Ms->Pl.Rs) (l:Ar) (m2:Ms) (HS:∀W,Bl w W->Cp 67 #[sX (sY b o) c.length cp,I ((i:Int)-1)] W λe w'=>e=rT (I (j:Int))/\w'=W) (IH:∀W,Bl w W->Cp 49 #[eW m.f m.c m.s 0 0,uV L u,sX (sY b o) c.length cp,I ((j:Int)-1)] W (EPost K P W (.ok a,m')))
  (IL:∀(Q:nK) W,gL m'->Bl w W->(∀b,P b->Q b)->(∀b,Q b->b<W.1.size)->Cp 49 #[eW m'.f m'.c m'.s 0 0,uV L u,sX (sY b o) c.length cp,I ((i:Int)-1)] W (EPost K Q W (.ok l,m2))) (mJ:¬s.fn.k=10) (hf:¬L.f<=m2.f) :
  Cp 49 #[eW m.f m.c m.s 0 0,uV L u,sX (sY b o) c.length cp,I (i:Int)] w (EPost K P w (iQ L m2 (Pl.mi K.k2 L call s l a))):=by
 have⟨r,HR⟩:∃r,Hid (r=iQ L m2 (Pl.mi K.k2 L call s l a)):=⟨_,rfl⟩;rw[<- HR.o];open ai2 in exact Hb
section
variable {w:Wd}{s:Sv}{K:Ks}{G:Gb}{d:Nat}
def PC(K:Ks)(L:Lm)(G:Gb)(d:Nat):Prop:=∀(P:nK)(w:Wd) (u:UV) (own:List Ar) (eO:Option Pl.Tv) (nm:lJ) (vs:List Ar) (m:Ms) (x0 x1 x2 x3:oA) (n0 n1 n2 n3 y0 y1 y2 y3:Nat),gL m->(∀b,P b->b<w.1.size)->Eu K P w u G own eO d->(vs.length=1\/vs.length=2)->(∀x,vs[0]? = a_ x->RO K P w (sX x2 n2 y2) (sX x3 n3 y3) x)->(∀x,vs[1]? = a_ x->RO K P w (sX x0 n0 y0) (sX x1 n1 y1) x) ->
 Cp 75 #[eW m.f m.c m.s 0 0,uV L u,.string (Pl.ba nm),I (vs.length:Int),.agg #[sX x0 n0 y0,sX x1 n1 y1],.agg #[sX x2 n2 y2,sX x3 n3 y3]] w (EPost K P w (ki K.k1 K.k2 L G d eO nm vs m))
def Cd(w:Wd)(b o:Nat)(c:List Sv):Prop:=∀(i:Nat)(s:Sv),c[i]? = a_ s->∃an cn,jE w.1.size w b (o+i * 7) s an cn
def Cd.kp{w':Wd}{b o:Nat}{c:List Sv}(h:Cd w b o c)(hb:b<w.1.size)(k:Bl w w'):Cd w' b o c:=λi s hs=>let ⟨an,cn,h⟩:=h i s hs;⟨an,cn,(h.eG hb k).up k.size⟩
def al8(h0:¬Pl.ar s=0)(h1:Pl.ar s=1):s.k=3:=by
 unfold Pl.ar at h0 h1;split at h1
 ·omega
 split at h1
 ·assumption
 omega
def al7(h:Pl.fj s=b_)(h0:¬Pl.ar s=0)(h1:¬Pl.ar s=1):s.k=4:=by
 rcases vt h with k|k|k|k
 ·exact absurd (by simp[Pl.ar,k]) h0
 ·exact absurd (by simp[Pl.ar,k]) h0
 ·exact absurd (by simp[Pl.ar,k]) h1
 exact k
def adH{P:nK}{u:UV}{own:List Ar}{eO:Option Pl.Tv}(H:KS K)(O:KO K)(L:Lm)(hL:kJ L)(m:Ms)(h:Eu K P w u G own eO d)(hP:∀b,P b->b<w.1.size)(c:List Sv)(b o cp i:Nat)(s:Sv)(hs:c[i]? = a_ s)(pN:c.length<=1048576)(hk:s.k=4)(hb:b<w.1.size)(an:oA)(cn:Nat)(sp:jE w.1.size w b (o+i * 7) s an cn)
  (fF:Pl.fj s=b_) (j:Nat) (hj:j<=1048576) (HS:∀W,Bl w W->Cp 67 #[sX (sY b o) c.length cp,I ((i:Int)-1)] W λe w'=>e=rT (I (j:Int))/\w'=W) (rr:Pl.Rs) (ll:Ms->Pl.Rs) (call:lJ->List Ar->Ms->Pl.Rs) (IH:∀W,Bl w W->Cp 49 #[eW m.f m.c m.s 0 0,uV L u,sX (sY b o) c.length cp,I ((j:Int)-1)] W (EPost K P W rr))
  (IL:∀(m:Ms)(Q:nK) W,gL m->Bl w W->(∀b,P b->Q b)->(∀b,Q b->b<W.1.size)->Cp 49 #[eW m.f m.c m.s 0 0,uV L u,sX (sY b o) c.length cp,I ((i:Int)-1)] W (EPost K Q W (ll m)))
  (HC:∀(a l:Ar)(Q:nK) (W:Wd) (u0 u1 v0 v1:Va) (nm:lJ) (m:Ms),gL m->Bl w W->(∀b,P b->Q b)->(∀b,Q b->b<W.1.size)->RO K Q W u0 u1 a->RO K Q W v0 v1 l->Cp 75 #[eW m.f m.c m.s 0 0,uV L u,.string (Pl.ba nm),I 2,.agg #[v0,v1],.agg #[u0,u1]] W (EPost K Q W (call nm [a,l] m))) :
  Cp 49 #[eW m.f m.c m.s 0 0,uV L u,sX (sY b o) c.length cp,I (i:Int)] w (EPost K P w (jl rr λa m=>jl (ll m) λl m=>iQ L m (Pl.mi K.k2 L call s l a))):=by
 obtain⟨q,m'⟩:=rr
 cases q with
 |error q=>exact abK (G:=G) (own:=own) (eO:=eO) (d:=d) L m hP c b o cp i s hs pN hk hb an cn sp q.1 q.2 m' j hj HS IH
 |ok a =>
  show Calls _ _ _ _ (EPost K P w (jl (ll m') λl m=>iQ L m (Pl.mi K.k2 L call s l a)));have Mn:=IL m';generalize ll m'=rl at Mn;obtain⟨q,m2⟩:=rl
  cases q with
  |error q=>exact abJ H O L hL m h hP c b o cp i s hs pN hk hb an cn sp fF j hj a m' q.1 q.2 m2 HS IH Mn
  |ok l =>
   by_cases hq:¬s.fn.k=10/\¬L.f<=m2.f
   ·exact abq H O L hL m h hP c b o cp i s hs pN hk hb an cn sp fF j hj a m' call l m2 HS IH Mn hq.1 hq.2
   exact abh H O L hL m h hP c b o cp i s hs pN hk hb an cn sp fF j hj a m' call l m2 HS IH Mn (HC a) hq
def akP.P8(h:ρ:=by
 by_cases h0:Pl.ar s'=0
 ·rw[eD h0] at hn;simp at hn
 ·rw[eB h0] at hn
  cases i with
  |zero=>rw[NZ] at hn;cases hn
  |succ i =>
  cases e1:Pl.nd c (i+1) with
  |none=>rw[e1] at hn;cases hn
  |some q =>
   obtain⟨t1,m1⟩:=q;rw[e1] at hn;simp only at hn;by_cases h1:Pl.ar s'=1
   ·rw[eD h1] at hn;simp at hn
   rw[eB h1] at hn
   cases m1 with
   |zero=>rw[NZ] at hn;cases hn
   |succ j =>
   cases e2:Pl.nd c (j+1) with
   |none=>rw[e2] at hn;cases hn
   |some q =>
   obtain⟨t2,m2⟩:=q;rw[e2] at hn;simp only[kh,kH,Nd.two.injEq] at hn;obtain⟨⟨rfl,rfl,rfl⟩,rfl⟩:=hn;have hk:=al7 fF h0 h1;have hj:=xy e1;have IHr:∀W,Bl w W->Cp 49 #[eW m.f m.c m.s 0 0,uV L u,sX (sY b o) c.length cp,I (((j+1:Nat):Int)-1)] W (EPost K P W (oE K.k1 K.k2 L (gH G.ns own) (ki K.k1 K.k2 L G d eO) t2 m)):=λW hW=>by
    have:=RU j m2 oM e2 P W u own eO b o m (λb h=>jL (hP b h) hW.size) (h.eG hW) (jL hb hW.size) (cd.kp hb hW) hm;rwa [show (((j+1:Nat):Int)-1)=(j:Int) by omega]
   have IHl:∀(m:Ms)(Q:nK) W,gL m->Bl w W->(∀b,P b->Q b)->(∀b,Q b->b<W.1.size)->Cp 49 #[eW m.f m.c m.s 0 0,uV L u,sX (sY b o) c.length cp,I (((i+1:Nat):Int)-1)] W (EPost K Q W (oE K.k1 K.k2 L (gH G.ns own) (ki K.k1 K.k2 L G d eO) t1 m)):=λm Q W hm hW h1 h2=>by
    have:=RW i _ oM e1 Q W u own eO b o m h2 ((h.eG hW).mono λb h _=>h1 b h) (jL hb hW.size) (cd.kp hb hW) hm;rwa [show (((i+1:Nat):Int)-1)=(i:Int) by omega]
   have HS:∀W,Bl w W->Cp 67 #[sX (sY b o) c.length cp,I (((i+1:Nat):Int)-1)] W λe w'=>e=rT (I ((j+1:Nat):Int))/\w'=W:=λW hW=>by
    have:=M7 c b o cp hc.2 W (λi s hs=>let ⟨an,cn,h⟩:=cd.kp hb hW i s hs;h.k) (i+1) oM;rwa [show iZ c (i+1)=((j+1:Nat):Int) by simp[iZ,e1]] at this
   have HC2:∀(a a':Ar)(Q:nK) (W:Wd) (u0 u1 v0 v1:Va) (nm:lJ) (m:Ms),gL m->Bl w W->(∀b,P b->Q b)->(∀b,Q b->b<W.1.size)->RO K Q W u0 u1 a->RO K Q W v0 v1 a'->Cp 75 #[eW m.f m.c m.s 0 0,uV L u,.string (Pl.ba nm),I 2,.agg #[v0,v1],.agg #[u0,u1]] W (EPost K Q W (ki K.k1 K.k2 L G d eO nm [a,a'] m)):=λa a' Q W u0 u1 v0 v1 nm m hm hW h1 h2 ro ro'=>by
    obtain⟨⟨x,y,rfl⟩,x',y',rfl⟩:=ro.1.eS;obtain⟨⟨z,t,rfl⟩,z',t',rfl⟩:=ro'.1.eS;exact HC Q W u own eO nm [a,a'] m z z' x x' _ _ _ _ t t' y y' hm h2 ((h.eG hW).mono λb h _=>h1 b h) (.inr rfl) (λz hz=>by cases hz;exact ro) (λz hz=>by cases hz;exact ro')
   show Calls _ _ _ _ (EPost K P w (jl (oE K.k1 K.k2 L (gH G.ns own) (ki K.k1 K.k2 L G d eO) t2 m) λw m=>jl (oE K.k1 K.k2 L (gH G.ns own) (ki K.k1 K.k2 L G d eO) t1 m) λa m=>iQ L m (Pl.mi K.k2 L (ki K.k1 K.k2 L G d eO) s' a w)));exact adH H O L hL m h hP c b o cp _ s' hs hc.2 hk hb an cn sp fF (j+1) (by have:=hc.2;omega) HS _ _ _ IHr IHl HC2
 ):ρ:=h
def akO.P8(h:ρ:=by
 by_cases h0:Pl.ar s'=0
 ·rw[eD h0] at hn;simp at hn
 ·rw[eB h0] at hn
  cases i with
  |zero=>rw[NZ] at hn;cases hn
  |succ i =>
  cases e1:Pl.nd c (i+1) with
  |none=>rw[e1] at hn;cases hn
  |some q =>
   obtain⟨t1,m1⟩:=q;rw[e1] at hn;simp only at hn;by_cases h1:Pl.ar s'=1
   rotate_left 1
   ·rw[eB h1] at hn
    split at hn
    ·cases hn
    simp at hn
   rw[eD h1] at hn;simp only[kh,kH,Nd.one.injEq] at hn;obtain⟨⟨rfl,rfl⟩,rfl⟩:=hn;have hk:=al8 h0 h1;have IH:∀W,Bl w W->Cp 49 #[eW m.f m.c m.s 0 0,uV L u,sX (sY b o) c.length cp,I (((i+1:Nat):Int)-1)] W (EPost K P W (oE K.k1 K.k2 L (gH G.ns own) (ki K.k1 K.k2 L G d eO) t1 m)):=λW hW=>by
    have:=ih i m1 oM e1 P W u own eO b o m (λb h=>jL (hP b h) hW.size) (h.eG hW) (jL hb hW.size) (cd.kp hb hW) hm;rwa [show (((i+1:Nat):Int)-1)=(i:Int) by omega]
   have Uu:∀(a:Ar)(Q:nK) (W:Wd) (u0 u1:Va) (nm:lJ) (m:Ms),gL m->Bl w W->(∀b,P b->Q b)->(∀b,Q b->b<W.1.size)->RO K Q W u0 u1 a->Cp 75 #[eW m.f m.c m.s 0 0,uV L u,.string (Pl.ba nm),I 1,.agg nN,.agg #[u0,u1]] W (EPost K Q W (ki K.k1 K.k2 L G d eO nm [a] m)):=λa Q W u0 u1 nm m hm hW h1 h2 ro=>by
    obtain⟨⟨x,y,rfl⟩,x',y',rfl⟩:=ro.1.eS;exact HC Q W u own eO nm [a] m c_ c_ x x' 0 0 _ _ 0 0 y y' hm h2 ((h.eG hW).mono λb h _=>h1 b h) (.inl rfl) (λz hz=>by cases hz;exact ro) (λz hz=>by cases hz)
   show Calls _ _ _ _ (EPost K P w (jl (oE K.k1 K.k2 L (gH G.ns own) (ki K.k1 K.k2 L G d eO) t1 m) λw m=>iQ L m (qG K.k1 L (ki K.k1 K.k2 L G d eO) s' w)));generalize oE K.k1 K.k2 L (gH G.ns own) (ki K.k1 K.k2 L G d eO) t1 m=r1 at IH;obtain⟨q,m'⟩:=r1
   cases q with
   |error q =>
    obtain⟨kd,x⟩:=q;exact abt (own:=own) (eO:=eO) (d:=d) (G:=G) L m hP c b o cp _ s' hs hc.2 hk hb an cn sp kd x m' IH
   |ok a =>
    refine adI H O L hL m h hP c b o cp _ s' hs hc.2 hk hb an cn sp fF a m' _ IH (Uu a) λmJ hf=>?_;by_cases h9:s'.fn.k=9
    ·exact abi H O L hL m h hP c b o cp _ s' hs hc.2 hk hb an cn sp fF a m' _ IH h9 hf
    exact abr H O L hL m h hP c b o cp _ s' hs hc.2 hk hb an cn sp fF a m' _ IH mJ h9 hf
 ):ρ:=h
def akN.P8(h:ρ:=by
 by_cases h0:Pl.ar s'=0
 ·rw[eD h0] at hn
  simp only[kh,kH,Nd.at.injEq] at hn;obtain⟨rfl,rfl⟩:=hn;exact aeP O L hL m hm hP h c b o cp i s' hs hc.2 fF h0 hb an cn sp λhk hf=>adJ O L hL m hm hP h c b o cp i s' hs hc.2 fF hk hf hb an cn sp
 ·rw[eB h0] at hn
  split at hn
  ·cases hn
  split at hn
  ·simp at hn
  split at hn
  ·cases hn
  simp at hn
 ):ρ:=h
def adK(H:KS K)(O:KO K)(L:Lm)(hL:kJ L)(HC:PC K L G d)(c:List Sv)(hc:COk c)(cp:Nat):∀(t:Nd Sv)(i m0:Nat),i<c.length->Pl.nd c (i+1)=a_ (t,m0) ->
  ∀(P:nK)(w:Wd) (u:UV) (own:List Ar) (eO:Option Pl.Tv) (b o:Nat) (m:Ms),(∀b,P b->b<w.1.size)->Eu K P w u G own eO d->b<w.1.size->Cd w b o c->gL m ->
  Cp 49 #[eW m.f m.c m.s 0 0,uV L u,sX (sY b o) c.length cp,I (i:Int)] w (EPost K P w (oE K.k1 K.k2 L (gH G.ns own) (ki K.k1 K.k2 L G d eO) t m)):=by
 intro t;induction t with
 |«at» s =>
  open akN in exact Qs
 |one s r ih =>
  open akO in exact Qs
 |two s l r RW RU =>
  open akP in exact Qs
end
def adE{K:Ks}{P:nK}{w:Wd}{u:UV}(L:Lm)(m:Ms)(hP:∀b,P b->b<w.1.size)(ac:oA)(n cp:Nat)(hn:0<n)(hl:n<=1048576)(r:Pl.Rs)
  (IH:∀W,Bl w W->Cp 49 #[eW m.f m.c m.s 0 0,uV L u,sX ac n cp,I ((n:Int)-1)] W (EPost K P W r)) :
  Cp 23 #[eW m.f m.c m.s 0 0,uV L u,sX ac n cp] w (EPost K P w r):=by
 obtain⟨mf,mc,ms⟩:=m;obtain⟨lf,lc,lr,ls⟩:=L;have W0:Hid (∀w',Below ((((w.alloc (.cells (fA mf mc ms 0 0) 64)).alloc (.cells (uC ⟨lf,lc,lr,ls⟩ u) 62)).alloc (.cells nN 30)).alloc (.cells (fA 0 0 0 0 0) 64)).1.size ((((w.alloc (.cells (fA mf mc ms 0 0) 64)).alloc (.cells (uC ⟨lf,lc,lr,ls⟩ u) 62)).alloc (.cells nN 30)).alloc (.cells (fA 0 0 0 0 0) 64)) w'->Bx w' (w.1.size+1+1) nN 30/\Bx w' (w.1.size+1+1+1) (fA 0 0 0 0 0) 64/\Bl w w'):=λw' hb=>⟨.below (.al (.eK sI) _) hb,.below (.eK sI) hb,bv hb⟩;replace IH:=zH IH;go_enter func23,ntmps23;go_wp2_with fail;refine(IH.o _ gG).mono ?_;rintro e w1 hp;have⟨b2,b3,hb⟩:=W0.o w1 hp.1;have HQ:=zH hp;obtain⟨a0,n0,c0,a1,n1,c1,f5,c5,s5,k5,x5,rfl⟩:=hp.form;obtain⟨d2,f2,z2⟩:=b2.all;obtain⟨d3,f3,z3⟩:=b3.all;go_wp2;refine eJ (by simp[results,results23,go_sem,d2,d3];try rfl) rfl ?_;refine HQ.o.move ?_ gG (λb h=>h.imp id λh=>by simp at h;omega);repeat' (first | with_reducible exact Kp.refl _ _ | with_reducible refine Kp.set ?_ ?_ _ | exact λh=>h.elim (λh=>absurd (hP _ h) J6) (λh=>by simp at h;try omega))
def UX{K:Ks}(H:KS K)(O:KO K)(L:Lm)(hL:kJ L){G:Gb}{d:Nat}(HC:PC K L G d)(c:List Sv)(hc:n6 c)(P:nK)(w:Wd)(u:UV)(own:List Ar)(eO:Option Pl.Tv)(m:Ms)(ac:oA)(cp:Nat)(hP:∀b,P b->b<w.1.size)(h:Eu K P w u G own eO d)(hr:gf w.1.size w ac c)(hm:gL m):
  Cp 23 #[eW m.f m.c m.s 0 0,uV L u,sX ac c.length cp] w (EPost K P w (oW K.k1 K.k2 L (gH G.ns own) (ki K.k1 K.k2 L G d eO) c m)):=by
 obtain⟨fF,t,ht⟩:=hc;have zF:0<c.length:=by
  cases c with
  |nil=>cases ht
  |cons=>simp
 have⟨n,hn⟩:∃n,c.length=n+1:=⟨c.length-1,oM⟩;rcases hr with rfl|⟨b,o,hb,rfl,cd⟩
 ·simp at zF
 refine adE L m hP _ _ _ zF fF.2 _ λW hW=>?_;have hx:oW K.k1 K.k2 L (gH G.ns own) (ki K.k1 K.k2 L G d eO) c m=oE K.k1 K.k2 L (gH G.ns own) (ki K.k1 K.k2 L G d eO) t m:=by unfold oW;rw[ht]
 rw[hx,show ((c.length:Int)-1)=(n:Int) by omega];exact adK H O L hL HC c fF cp t n 0 oM (hn ▸ ht) P W u own eO b o m (λb h=>jL (hP b h) hW.size) (h.eG hW) (jL hb hW.size) (Cd.kp cd hb hW) hm
end Go.Proofs.YtiagfejlmafliaaGreatDoor
