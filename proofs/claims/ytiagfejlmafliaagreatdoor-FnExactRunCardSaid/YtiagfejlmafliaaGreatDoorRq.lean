import Derived.Test.YtiagfejlmafliaaGreatDoorRpb
namespace Go.Proofs.YtiagfejlmafliaaGreatDoor
set_option linter.all false
open Go.Proofs.Tryz Pl
open Go.RowKit
set_option maxRecDepth 100000
set_option maxHeartbeats 16000000
open Pl (Ar)
open World renaming setCell->ez,alloc->ew
open List renaming range->eA,replicate->eE
open Option renaming some->a_,none->c_
open Bool renaming true->b_,false->d_
variable {ρ:Prop}
def aiI.Oj(h:ρ:=by
 refine(sH (P:=P) _ [] W4 ⟨_,_,rfl,.inl rfl⟩ sI).mono ?_;rintro e w5 ⟨hb,x4,y4,x5,y5,rfl,_⟩;have F5:=F4.o.call hb;have zB5:=F5.b6.lt;replace F4:=zH (F5.call (W':=w5.alloc (.cells #[sX x4 1 y4,sX x5 0 y5] 30)) gG);have b7:Bx (w5.alloc (.cells #[sX x4 1 y4,sX x5 0 y5] 30)) w5.1.size #[sX x4 1 y4,sX x5 0 y5] 30:=.eK rfl;replace pX:=zH ((pX.o.kp (.of hb)).kp (w':=w5.alloc (.cells #[sX x4 1 y4,sX x5 0 y5] 30)) eY);replace E':=zH ((E'.o.kp (.of hb)).kp (w':=w5.alloc (.cells #[sX x4 1 y4,sX x5 0 y5] 30)) eY);obtain⟨⟨d0,f0,z0⟩,⟨d1,f1,z1⟩,⟨d2,f2,z2⟩,⟨d3,f3,z3⟩,⟨d4,f4,z4⟩,⟨d5,f5,z5⟩,⟨d6,f6,z6⟩⟩:=F5.all;go_wp2_with fail;generalize w5.alloc _=W5,w5.1.size=Z at *;have lZ:=b7.lt;refine(aeJ H ⟨fk,fa,fb,fn⟩ _ _ _ _ l a W5 E'.o pX.o).mono ?_;rintro e w6 hk;obtain⟨x6,y6,x7,y7,rfl,RR,hb⟩:=hk.open;replace F4:=zH (F4.o.call hb);replace b7:=b7.below hb;generalize K.k2 ⟨fk,fa,fb,fn⟩ l a=r6 at *;exact aa3
 ):ρ:=h
def akz.Ow(h:ρ:=by
 go_cut [49] from 38 to 49 (λ_ wy=>∃a0 n0 e0 a1 n1 e1 f5 c5 s5 k5 x5 w1,EPost K P W0.drew (.ok a,m') (rT (.tuple #[.agg #[sX a0 n0 e0,sX a1 n1 e1],eW f5 c5 s5 k5 x5])) w1/\wy=((((((w1.setCell (Y (w.1.size+1+1+1+1+1) 0) (sX a0 n0 e0)).setCell (Y (w.1.size+1+1+1+1+1) 1) (sX a1 n1 e1)).setCell (Y w.1.size 0) (I f5)).setCell (Y w.1.size 1) (I c5)).setCell (Y w.1.size 2) (I s5)).setCell (Y w.1.size 3) (I k5)).setCell (Y w.1.size 4) (I x5))
 case first =>
  exact Qt
 case rest =>
  obtain⟨x0,n0,y0,x1,n1,y1,f5,c5,s5,k5,x5,w1,hp,rfl⟩:=hcut;obtain⟨⟨rfl,rfl,rfl,rfl,rfl,rfl,rfl⟩,hb1,gJ,RR⟩:=hp.Rx;have F2:=((F0.o.call (iq hb1)).pw (sX x0 a.1.length y0) (sX x1 a.2.length y1)).st m'.f m'.c m'.s 0 0;have ro:=(RR.o.mono (Q:=λb=>P b\/w.1.size+7<=b) λb h _=>h.imp id λh=>jT j8 h).kp (w':=((((((w1.setCell (Y (w.1.size+1+1+1+1+1) 0) (sX x0 a.1.length y0)).setCell (Y (w.1.size+1+1+1+1+1) 1) (sX x1 a.2.length y1)).setCell (Y w.1.size 0) (I m'.f)).setCell (Y w.1.size 1) (I m'.c)).setCell (Y w.1.size 2) (I m'.s)).setCell (Y w.1.size 3) (I 0)).setCell (Y w.1.size 4) (I 0)) J4;generalize ez (ez (ez (ez (ez (ez (ez w1 _ _) _ _) _ _) _ _) _ _) _ _) _ _=wx at *;have zB:=F2.b6.lt;have R2:=zH ro;replace F2:=zH F2;obtain⟨⟨d0,f0,z0⟩,⟨d1,f1,z1⟩,⟨d2,f2,z2⟩,⟨d3,f3,z3⟩,⟨d4,f4,z4⟩,⟨d5,f5,z5⟩,⟨d6,f6,z6⟩⟩:=F2.o.all;go_wp2_with fail;refine(IL.o (λb=>(P b\/w.1.size+7<=b)/\b<wx.1.size) _ gJ F2.o.bl (λb h=>⟨.inl h,jL (hP b h) F2.o.bl.size⟩) (λb h=>h.2)).mono ?_;rintro e w2 hp;have F3:=zH (F2.o.call hp.1);replace R2:=zH (R2.o.kp (.of hp.1));obtain⟨f',c',s'⟩:=m2;simp only at hf;obtain⟨hb2,fY,u0,u1,rfl,ro⟩:=hp;obtain⟨⟨x2,y2,rfl⟩,x3,y3,rfl⟩:=ro.1.eS;simp only at fY ⊢;replace HR:Hid (r=iQ ⟨lf,lc,lr,ls⟩ ⟨f',c',s'⟩ (Pl.mi K.k2 ⟨lf,lc,lr,ls⟩ call ⟨4,[],nm,⟨fk,fa,fb,fn⟩⟩ l a)):=HR.o;have oY:=zH (R2.o.kp (w':=((((((w2.setCell (Y (w.1.size+1+1+1+1+1+1) 0) (sX x2 l.1.length y2)).setCell (Y (w.1.size+1+1+1+1+1+1) 1) (sX x3 l.2.length y3)).setCell (Y w.1.size 0) (I f')).setCell (Y w.1.size 1) (I c')).setCell (Y w.1.size 2) (I s')).setCell (Y w.1.size 3) (I 0)).setCell (Y w.1.size 4) (I 0)) J4);have Ai:=zH ((ro.mono (Q:=λb=>P b\/w.1.size+7<=b) λb h _=>h.elim (λh=>h.1) (λh=>.inr oM)).kp (w':=((((((w2.setCell (Y (w.1.size+1+1+1+1+1+1) 0) (sX x2 l.1.length y2)).setCell (Y (w.1.size+1+1+1+1+1+1) 1) (sX x3 l.2.length y3)).setCell (Y w.1.size 0) (I f')).setCell (Y w.1.size 1) (I c')).setCell (Y w.1.size 2) (I s')).setCell (Y w.1.size 3) (I 0)).setCell (Y w.1.size 4) (I 0)) J4);have F2:=zH ((F3.o.pa (sX x2 l.1.length y2) (sX x3 l.2.length y3)).st f' c' s' 0 0);have Et:=F3.o.bl;obtain⟨⟨d0,f0,z0⟩,⟨d1,f1,z1⟩,⟨d2,f2,z2⟩,⟨d3,f3,z3⟩,⟨d4,f4,z4⟩,⟨d5,f5,z5⟩,⟨d6,f6,z6⟩⟩:=F3.o.all;go_wp2_with fail;generalize ez (ez (ez (ez (ez (ez (ez w2 _ _) _ _) _ _) _ _) _ _) _ _) _ _=W2 at *;have gJ:=fY;have fY:=gJ;obtain⟨g0,g1,g2,g3,g4,g5⟩:=gJ;simp only at g0 g1 g2 g3 g4 g5;refine(Ay f' c' s' 0 0 ⟨lf,lc,lr,ls⟩ W2 g0 g1).k λw3 hb=>?_;replace oY:=zH (oY.o.kp (.of hb));replace Ai:=zH (Ai.o.kp (.of hb));have F3:=zH (F2.o.call hb);have uW:¬lf<=f':=oM;rw[eB uW];replace HR:Hid (r=Pl.mi K.k2 ⟨lf,lc,lr,ls⟩ call ⟨4,[],nm,⟨fk,fa,fb,fn⟩⟩ l a ⟨f'+1,c',s'⟩):=HR.o.trans (eB uW);have F4:=zH (F3.o.st (f'+1) c' s' 0 0);have pX:Hid (RO K (λb=>P b\/w.1.size+7<=b) (((((w3.setCell (Y w.1.size 0) (I (f'+1))).setCell (Y w.1.size 1) (I c')).setCell (Y w.1.size 2) (I s')).setCell (Y w.1.size 3) (I 0)).setCell (Y w.1.size 4) (I 0)) (sX x0 a.1.length y0) (sX x1 a.2.length y1) a):=oY.o.kp (by
   repeat' (first | with_reducible exact Kp.refl _ _ | with_reducible refine Kp.set ?_ ?_ _ | exact HN.o _ J6 J6))
  have E':Hid (RO K (λb=>P b\/w.1.size+7<=b) (((((w3.setCell (Y w.1.size 0) (I (f'+1))).setCell (Y w.1.size 1) (I c')).setCell (Y w.1.size 2) (I s')).setCell (Y w.1.size 3) (I 0)).setCell (Y w.1.size 4) (I 0)) (sX x2 l.1.length y2) (sX x3 l.2.length y3) l):=Ai.o.kp (by
   repeat' (first | with_reducible exact Kp.refl _ _ | with_reducible refine Kp.set ?_ ?_ _ | exact HN.o _ J6 J6))
  have nI:gL ⟨f'+1,c',s'⟩:=⟨by simp only;omega,by have:=hL.f;simp only at this ⊢;omega,g2,g3,g4,g5⟩;obtain⟨⟨d0,f0,z0⟩,⟨d1,f1,z1⟩,⟨d2,f2,z2⟩,⟨d3,f3,z3⟩,⟨d4,f4,z4⟩,⟨d5,f5,z5⟩,⟨d6,f6,z6⟩⟩:=F3.o.all;replace HR:Hid (r=fin ⟨lf,lc,lr,ls⟩ (K.k2 ⟨fk,fa,fb,fn⟩ l a) ⟨f'+1,c',s'⟩):=HR.o.trans (eB mJ);have e10:(fk == 10)=d_:=gR.2 mJ;open aiI in exact OW
 ):ρ:=h
def ai2.GI(h:ρ:=by
 simp only at k0 k1 k2 k3 k4 k5 k6 hk mJ hf;subst hk;have qZ:eF=[]:=by
  simp[Pl.fj] at fF
  exact fF.1.2
 subst qZ;have⟨q1,q2,q3,q4⟩:b<w.1.size+1/\b<w.1.size+1+1/\b<w.1.size+1+1+1/\b<w.1.size+1+1+1+1:=oM;replace IH:=zH IH;replace HS:=zH HS;replace IL:=zH IL;open akz in exact Po
 ):ρ:=h
def abq{K:Ks}{P:nK}{w:Wd}{u:UV}{G:Gb}{own:List Ar}{eO:Option Pl.Tv}{d:Nat}(H:KS K)(O:KO K)(L:Lm)(hL:kJ L)(m:Ms)(h:Eu K P w u G own eO d)(hP:∀b,P b->b<w.1.size)(c:List Sv)(b o cp i:Nat)(s:Sv)(hs:c[i]? = a_ s)(pN:c.length<=1048576)(hk:s.k=4)(hb:b<w.1.size)(an:oA)(cn:Nat)(sp:jE w.1.size w b (o+i * 7) s an cn)
  (fF:Pl.fj s=b_) (j:Nat) (hj:j<=1048576) (a:Ar) (m':Ms) (call:lJ->List Ar->Ms->Pl.Rs) (l:Ar) (m2:Ms) (HS:∀W,Bl w W->Cp 67 #[sX (sY b o) c.length cp,I ((i:Int)-1)] W λe w'=>e=rT (I (j:Int))/\w'=W) (IH:∀W,Bl w W->Cp 49 #[eW m.f m.c m.s 0 0,uV L u,sX (sY b o) c.length cp,I ((j:Int)-1)] W (EPost K P W (.ok a,m')))
  (IL:∀(Q:nK) W,gL m'->Bl w W->(∀b,P b->Q b)->(∀b,Q b->b<W.1.size)->Cp 49 #[eW m'.f m'.c m'.s 0 0,uV L u,sX (sY b o) c.length cp,I ((i:Int)-1)] W (EPost K Q W (.ok l,m2))) (mJ:¬s.fn.k=10) (hf:¬L.f<=m2.f) :
  Cp 49 #[eW m.f m.c m.s 0 0,uV L u,sX (sY b o) c.length cp,I (i:Int)] w (EPost K P w (iQ L m2 (Pl.mi K.k2 L call s l a))):=by
 have⟨r,HR⟩:∃r,Hid (r=iQ L m2 (Pl.mi K.k2 L call s l a)):=⟨_,rfl⟩;rw[<- HR.o];open ai2 in exact Hb
end Go.Proofs.YtiagfejlmafliaaGreatDoor
