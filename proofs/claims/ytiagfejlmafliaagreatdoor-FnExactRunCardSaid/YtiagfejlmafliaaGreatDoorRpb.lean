import Derived.Test.YtiagfejlmafliaaGreatDoorRlb
import Derived.Test.YtiagfejlmafliaaGreatDoorRm
namespace Go.Proofs.YtiagfejlmafliaaGreatDoor
set_option linter.all false
open Go.Proofs.Tryz Pl
open Go.RowKit
set_option maxRecDepth 100000
set_option maxHeartbeats 16000000
open Pl (Ar)
open World renaming setCell->ez,alloc->ew
open List renaming range->eA,replicate->eE
open Option renaming some->a_,none->c_
open Bool renaming true->b_,false->d_
variable {ρ:Prop}
section
variable {K:Ks}{w w':Wd}{a:Ar}{m:Ms}
def EPost.ok{P:nK}{e:Ending}(h:EPost K P w (.ok a,m) e w'):∃x0 y0 x1 y1,e=rT (.tuple #[.agg #[sX x0 a.1.length y0,sX x1 a.2.length y1],eW m.f m.c m.s 0 0])/\Bl w w'/\gL m/\Hid (RO K (λb=>P b\/w.1.size<=b) w' (sX x0 a.1.length y0) (sX x1 a.2.length y1) a):=by
 obtain⟨hb,hm,u0,u1,rfl,ro⟩:=h;obtain⟨⟨x,y,rfl⟩,x',y',rfl⟩:=ro.1.eS;exact⟨x,y,x',y',rfl,hb,hm,ro⟩
def EPost.Rx{P:nK}{a0 a1:oA}{n0 c0 n1 c1:Nat}{f c s k x:Int}(h:EPost K P w (.ok a,m) (rT (.tuple #[.agg #[sX a0 n0 c0,sX a1 n1 c1],eW f c s k x])) w'):(n0=a.1.length/\n1=a.2.length/\f=m.f/\c=m.c/\s=m.s/\k=0/\x=0)/\Bl w w'/\gL m/\Hid (RO K (λb=>P b\/w.1.size<=b) w' (sX a0 a.1.length c0) (sX a1 a.2.length c1) a):=by
 obtain⟨x0,y0,x1,y1,e,hb,hm,ro⟩:=h.ok;simp at e
 obtain⟨⟨⟨rfl,rfl,rfl⟩,rfl,rfl,rfl⟩,rfl,rfl,rfl,rfl,rfl⟩:=e;exact⟨⟨rfl,rfl,rfl,rfl,rfl,rfl,rfl⟩,hb,hm,ro⟩
def Fe.pa{W:Wd}{c0 c1 c4 c5:aV}{p q:Va}(h:Fe w c0 c1 c4 c5 #[p,q] W)(p' q':Va):Fe w c0 c1 c4 c5 #[p',q'] ((W.setCell (Y (w.1.size+1+1+1+1+1+1) 0) p').setCell (Y (w.1.size+1+1+1+1+1+1) 1) q'):=by
 have:=h.bl;exact⟨gG,(h.b0.fa _).fa _,(h.b1.fa _).fa _,(h.b2.fa _).fa _,(h.b3.fa _).fa _,(h.b4.fa _).fa _,(h.b5.fa _).fa _,(h.b6.set 0 _).set 1 _⟩
def an7.aaz(h:ρ:=by
 obtain⟨hb2,fY,ru,b0,n0,e0,b1,n1,e1,s1,rfl⟩:=hp;simp only at fY ⊢;have gp:(kd == 0)=d_:=gR.2 ru;obtain⟨⟨d0,f0,z0⟩,⟨d1,f1,z1⟩,⟨d2,f2,z2⟩,⟨d3,f3,z3⟩,⟨d4,f4,z4⟩,⟨d5,f5,z5⟩,⟨d6,f6,z6⟩⟩:=F3.o.all;go_wp2_with fail;have F4:=zH ((F3.o.pa (sX b0 n0 e0) (sX b1 n1 e1)).st f' c' s1 kd x);generalize ez (ez (ez (ez (ez (ez (ez w2 _ _) _ _) _ _) _ _) _ _) _ _) _ _=W4 at *;obtain⟨⟨d0,f0,z0⟩,⟨d1,f1,z1⟩,⟨d2,f2,z2⟩,⟨d3,f3,z3⟩,⟨d4,f4,z4⟩,⟨d5,f5,z5⟩,⟨d6,f6,z6⟩⟩:=F4.o.all;go_region
 all_goals
  go_wp2;refine eJ J9 rfl ?_;have:=F4.o.bl;exact⟨gG,fY,ru,_,_,_,_,_,_,_,rfl⟩
 ):ρ:=h
def akC.Ow(h:ρ:=by
 go_cut [49] from 38 to 49 (λ_ wy=>∃a0 n0 e0 a1 n1 e1 f5 c5 s5 k5 x5 w1,EPost K P W0.drew (.ok a,m') (rT (.tuple #[.agg #[sX a0 n0 e0,sX a1 n1 e1],eW f5 c5 s5 k5 x5])) w1/\wy=((((((w1.setCell (Y (w.1.size+1+1+1+1+1) 0) (sX a0 n0 e0)).setCell (Y (w.1.size+1+1+1+1+1) 1) (sX a1 n1 e1)).setCell (Y w.1.size 0) (I f5)).setCell (Y w.1.size 1) (I c5)).setCell (Y w.1.size 2) (I s5)).setCell (Y w.1.size 3) (I k5)).setCell (Y w.1.size 4) (I x5))
 case first =>
  exact Qt
 case rest =>
  open an7 in exact aa1
 ):ρ:=h
def ai4.GI(h:ρ:=by
 simp only at k0 k1 k2 k3 k4 k5 k6 hk;subst hk;have qZ:eF=[]:=by
  simp[Pl.fj] at fF
  exact fF.1.2
 subst qZ;have⟨q1,q2,q3,q4⟩:b<w.1.size+1/\b<w.1.size+1+1/\b<w.1.size+1+1+1/\b<w.1.size+1+1+1+1:=oM;replace IH:=zH IH;replace HS:=zH HS;replace IL:=zH IL;open akC in exact Po
 ):ρ:=h
def abJ{P:nK}{u:UV}{G:Gb}{own:List Ar}{eO:Option Pl.Tv}{d:Nat}(H:KS K)(O:KO K)(L:Lm)(hL:kJ L)(m:Ms)(h:Eu K P w u G own eO d)(hP:∀b,P b->b<w.1.size)(c:List Sv)(b o cp i:Nat)(s:Sv)(hs:c[i]? = a_ s)(pN:c.length<=1048576)(hk:s.k=4)(hb:b<w.1.size)(an:oA)(cn:Nat)(sp:jE w.1.size w b (o+i * 7) s an cn)
  (fF:Pl.fj s=b_) (j:Nat) (hj:j<=1048576) (a:Ar) (m':Ms) (kd x:Int) (m2:Ms) (HS:∀W,Bl w W->Cp 67 #[sX (sY b o) c.length cp,I ((i:Int)-1)] W λe w'=>e=rT (I (j:Int))/\w'=W) (IH:∀W,Bl w W->Cp 49 #[eW m.f m.c m.s 0 0,uV L u,sX (sY b o) c.length cp,I ((j:Int)-1)] W (EPost K P W (.ok a,m')))
  (IL:∀(Q:nK) W,gL m'->Bl w W->(∀b,P b->Q b)->(∀b,Q b->b<W.1.size)->Cp 49 #[eW m'.f m'.c m'.s 0 0,uV L u,sX (sY b o) c.length cp,I ((i:Int)-1)] W (EPost K Q W (.error (kd,x),m2))) :
  Cp 49 #[eW m.f m.c m.s 0 0,uV L u,sX (sY b o) c.length cp,I (i:Int)] w (EPost K P w (.error (kd,x),m2)):=by
 open ai4 in exact Hb
end
def aiJ.Oj(h:ρ:=by
 refine(HC.o l (λb=>(P b\/w.1.size+7<=b)/\b<W4.1.size) W4 _ _ _ _ fn ⟨f'+1,c',s'⟩ nI F4.o.bl (λb h=>⟨.inl h,jL (hP b h) F4.o.bl.size⟩) (λb h=>h.2) (pX.o.mono λb h hl=>⟨h,hl⟩) (E'.o.mono λb h hl=>⟨h,hl⟩)).mono ?_;rintro e w5 hp;have HQ:=zH hp;have kV:=hp.1;obtain⟨a0,n0,c0,a1,n1,c1,f5,c5,s5,k5,x5,rfl⟩:=hp.form;have F5:=zH (F4.o.call kV);have zW:=F4.o.b6.lt;obtain⟨d2,f2,z2⟩:=F5.o.b2.all;obtain⟨d3,f3,z3⟩:=F5.o.b3.all;exact YY
 ):ρ:=h
def akA.Ot(h:ρ:=by
 have E':Hid (RO K (λb=>P b\/w.1.size+7<=b) (((((w3.setCell (Y w.1.size 0) (I (f'+1))).setCell (Y w.1.size 1) (I c')).setCell (Y w.1.size 2) (I s')).setCell (Y w.1.size 3) (I 0)).setCell (Y w.1.size 4) (I 0)) (sX x2 l.1.length y2) (sX x3 l.2.length y3) l):=Ai.o.kp (by
  repeat' (first | with_reducible exact Kp.refl _ _ | with_reducible refine Kp.set ?_ ?_ _ | exact HN.o _ J6 J6))
 have nI:gL ⟨f'+1,c',s'⟩:=⟨by simp only;omega,by have:=hL.f;simp only at this ⊢;omega,g2,g3,g4,g5⟩;obtain⟨⟨d0,f0,z0⟩,⟨d1,f1,z1⟩,⟨d2,f2,z2⟩,⟨d3,f3,z3⟩,⟨d4,f4,z4⟩,⟨d5,f5,z5⟩,⟨d6,f6,z6⟩⟩:=F3.o.all;by_cases mJ:fk=10
 ·subst mJ
  open aiJ in exact OW
 ·exact absurd ⟨mJ,oM⟩ hq.o
 ):ρ:=h
def an6.aaz(h:ρ:=by
 obtain⟨hb2,fY,u0,u1,rfl,ro⟩:=hp;obtain⟨⟨x2,y2,rfl⟩,x3,y3,rfl⟩:=ro.1.eS;simp only at fY ⊢;replace HR:Hid (r=iQ ⟨lf,lc,lr,ls⟩ ⟨f',c',s'⟩ (Pl.mi K.k2 ⟨lf,lc,lr,ls⟩ call ⟨4,[],nm,⟨fk,fa,fb,fn⟩⟩ l a)):=HR.o;have oY:=zH (R2.o.kp (w':=((((((w2.setCell (Y (w.1.size+1+1+1+1+1+1) 0) (sX x2 l.1.length y2)).setCell (Y (w.1.size+1+1+1+1+1+1) 1) (sX x3 l.2.length y3)).setCell (Y w.1.size 0) (I f')).setCell (Y w.1.size 1) (I c')).setCell (Y w.1.size 2) (I s')).setCell (Y w.1.size 3) (I 0)).setCell (Y w.1.size 4) (I 0)) J4);have Ai:=zH ((ro.mono (Q:=λb=>P b\/w.1.size+7<=b) λb h _=>h.elim (λh=>h.1) (λh=>.inr oM)).kp (w':=((((((w2.setCell (Y (w.1.size+1+1+1+1+1+1) 0) (sX x2 l.1.length y2)).setCell (Y (w.1.size+1+1+1+1+1+1) 1) (sX x3 l.2.length y3)).setCell (Y w.1.size 0) (I f')).setCell (Y w.1.size 1) (I c')).setCell (Y w.1.size 2) (I s')).setCell (Y w.1.size 3) (I 0)).setCell (Y w.1.size 4) (I 0)) J4);have F2:=zH ((F3.o.pa (sX x2 l.1.length y2) (sX x3 l.2.length y3)).st f' c' s' 0 0);have Et:=F3.o.bl;obtain⟨⟨d0,f0,z0⟩,⟨d1,f1,z1⟩,⟨d2,f2,z2⟩,⟨d3,f3,z3⟩,⟨d4,f4,z4⟩,⟨d5,f5,z5⟩,⟨d6,f6,z6⟩⟩:=F3.o.all;go_wp2_with fail;generalize ez (ez (ez (ez (ez (ez (ez w2 _ _) _ _) _ _) _ _) _ _) _ _) _ _=W2 at *;have gJ:=fY;have fY:=gJ;obtain⟨g0,g1,g2,g3,g4,g5⟩:=gJ;simp only at g0 g1 g2 g3 g4 g5;refine(Ay f' c' s' 0 0 ⟨lf,lc,lr,ls⟩ W2 g0 g1).k λw3 hb=>?_;replace oY:=zH (oY.o.kp (.of hb));replace Ai:=zH (Ai.o.kp (.of hb));have F3:=zH (F2.o.call hb);by_cases hf:lf<=f'
 ·exact Zx
 ·rw[eB hf]
  replace HR:Hid (r=Pl.mi K.k2 ⟨lf,lc,lr,ls⟩ call ⟨4,[],nm,⟨fk,fa,fb,fn⟩⟩ l a ⟨f'+1,c',s'⟩):=HR.o.trans (eB hf);open akA in exact Pm
 ):ρ:=h
def akB.Ow(h:ρ:=by
 go_cut [49] from 38 to 49 (λ_ wy=>∃a0 n0 e0 a1 n1 e1 f5 c5 s5 k5 x5 w1,EPost K P W0.drew (.ok a,m') (rT (.tuple #[.agg #[sX a0 n0 e0,sX a1 n1 e1],eW f5 c5 s5 k5 x5])) w1/\wy=((((((w1.setCell (Y (w.1.size+1+1+1+1+1) 0) (sX a0 n0 e0)).setCell (Y (w.1.size+1+1+1+1+1) 1) (sX a1 n1 e1)).setCell (Y w.1.size 0) (I f5)).setCell (Y w.1.size 1) (I c5)).setCell (Y w.1.size 2) (I s5)).setCell (Y w.1.size 3) (I k5)).setCell (Y w.1.size 4) (I x5))
 case first =>
  exact Qt
 case rest =>
  open an6 in exact aa1
 ):ρ:=h
def ai3.GI(h:ρ:=by
 simp only at k0 k1 k2 k3 k4 k5 k6 hk hq;replace hq:=zH hq;subst hk;have qZ:eF=[]:=by
  simp[Pl.fj] at fF
  exact fF.1.2
 subst qZ;have⟨q1,q2,q3,q4⟩:b<w.1.size+1/\b<w.1.size+1+1/\b<w.1.size+1+1+1/\b<w.1.size+1+1+1+1:=oM;replace IH:=zH IH;replace HS:=zH HS;replace IL:=zH IL;replace HC:=zH HC;open akB in exact Po
 ):ρ:=h
def abh{K:Ks}{P:nK}{w:Wd}{u:UV}{G:Gb}{own:List Ar}{eO:Option Pl.Tv}{d:Nat}(H:KS K)(O:KO K)(L:Lm)(hL:kJ L)(m:Ms)(h:Eu K P w u G own eO d)(hP:∀b,P b->b<w.1.size)(c:List Sv)(b o cp i:Nat)(s:Sv)(hs:c[i]? = a_ s)(pN:c.length<=1048576)(hk:s.k=4)(hb:b<w.1.size)(an:oA)(cn:Nat)(sp:jE w.1.size w b (o+i * 7) s an cn)
  (fF:Pl.fj s=b_) (j:Nat) (hj:j<=1048576) (a:Ar) (m':Ms) (call:lJ->List Ar->Ms->Pl.Rs) (l:Ar) (m2:Ms) (HS:∀W,Bl w W->Cp 67 #[sX (sY b o) c.length cp,I ((i:Int)-1)] W λe w'=>e=rT (I (j:Int))/\w'=W) (IH:∀W,Bl w W->Cp 49 #[eW m.f m.c m.s 0 0,uV L u,sX (sY b o) c.length cp,I ((j:Int)-1)] W (EPost K P W (.ok a,m')))
  (IL:∀(Q:nK) W,gL m'->Bl w W->(∀b,P b->Q b)->(∀b,Q b->b<W.1.size)->Cp 49 #[eW m'.f m'.c m'.s 0 0,uV L u,sX (sY b o) c.length cp,I ((i:Int)-1)] W (EPost K Q W (.ok l,m2)))
  (HC:∀(l:Ar)(Q:nK) (W:Wd) (u0 u1 v0 v1:Va) (nm:lJ) (m:Ms),gL m->Bl w W->(∀b,P b->Q b)->(∀b,Q b->b<W.1.size)->RO K Q W u0 u1 a->RO K Q W v0 v1 l->Cp 75 #[eW m.f m.c m.s 0 0,uV L u,.string (Pl.ba nm),I 2,.agg #[v0,v1],.agg #[u0,u1]] W (EPost K Q W (call nm [a,l] m))) (hq:¬(¬s.fn.k=10/\¬L.f<=m2.f)) :
  Cp 49 #[eW m.f m.c m.s 0 0,uV L u,sX (sY b o) c.length cp,I (i:Int)] w (EPost K P w (iQ L m2 (Pl.mi K.k2 L call s l a))):=by
 have⟨r,HR⟩:∃r,Hid (r=iQ L m2 (Pl.mi K.k2 L call s l a)):=⟨_,rfl⟩;rw[<- HR.o];open ai3 in exact Hb
end Go.Proofs.YtiagfejlmafliaaGreatDoor
