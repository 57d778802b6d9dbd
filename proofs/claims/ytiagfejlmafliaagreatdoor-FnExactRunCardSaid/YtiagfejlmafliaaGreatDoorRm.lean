import Derived.Test.YtiagfejlmafliaaGreatDoorRl
namespace Go.Proofs.YtiagfejlmafliaaGreatDoor
set_option linter.all false
open Go.Proofs.Tryz Pl
open Go.RowKit
set_option maxRecDepth 100000
set_option maxHeartbeats 16000000
open Pl (Ar)
open World renaming setCell->ez,alloc->ew
open List renaming range->eA,replicate->eE
open Option renaming some->a_,none->c_
open Bool renaming true->b_,false->d_
variable {ρ:Prop}
def Fe.fz{w W:Wd}{c0 c1 c4 c5 c6:aV}(h:Fe w c0 c1 c4 c5 c6 W){p:Addr}(hz:w.1.size+7<=p.block)(u:Va):Fe w c0 c1 c4 c5 c6 (W.setCell p u) :=
 ⟨h.bl.setCell oM _,h.b0.eC oM _,h.b1.eC oM _,h.b2.eC oM _,h.b3.eC oM _,h.b4.eC oM _,h.b5.eC oM _,h.b6.eC oM _⟩
def akd.Ot(h:ρ:=by
 have nI:gL ⟨f'+1,c',s'⟩:=⟨by simp only;omega,by have:=hL.f;simp only at this ⊢;omega,g2,g3,g4,g5⟩;obtain⟨⟨d0,f0,z0⟩,⟨d1,f1,z1⟩,⟨d2,f2,z2⟩,⟨d3,f3,z3⟩,⟨d4,f4,z4⟩,⟨d5,f5,z5⟩,⟨d6,f6,z6⟩⟩:=F3.o.all;have e10:(fk == 10)=d_:=gR.2 mJ;have e9:(fk == 9)=d_:=gR.2 h9;go_wp2_with fail;generalize ez (ez (ez (ez (ez w3 _ _) _ _) _ _) _ _) _ _=W4 at *;refine(sH (P:=P) _ [] W4 ⟨_,_,rfl,.inl rfl⟩ sI).mono ?_;rintro e w5 ⟨hb,x2,y2,x3,y3,rfl,_⟩;have F5:=F4.o.call hb;have zB5:=F5.b6.lt;replace F4:=zH (F5.call (W':=w5.alloc (.cells #[sX x2 1 y2,sX x3 0 y3] 30)) gG);have b7:Bx (w5.alloc (.cells #[sX x2 1 y2,sX x3 0 y3] 30)) w5.1.size #[sX x2 1 y2,sX x3 0 y3] 30:=.eK rfl;replace pX:=zH ((pX.o.kp (.of hb)).kp (w':=w5.alloc (.cells #[sX x2 1 y2,sX x3 0 y3] 30)) eY);obtain⟨⟨d0,f0,z0⟩,⟨d1,f1,z1⟩,⟨d2,f2,z2⟩,⟨d3,f3,z3⟩,⟨d4,f4,z4⟩,⟨d5,f5,z5⟩,⟨d6,f6,z6⟩⟩:=F5.all;go_wp2_with fail;generalize w5.alloc _=W5,w5.1.size=Z at *;have lZ:=b7.lt;refine(aeK H ⟨fk,fa,fb,fn⟩ _ _ a W5 pX.o).mono ?_;rintro e w6 hk;obtain⟨x6,y6,x7,y7,rfl,RR,hb⟩:=hk.open;replace F4:=zH (F4.o.call hb);replace b7:=b7.below hb;generalize K.k1 ⟨fk,fa,fb,fn⟩ a=r6 at *;exact aa3
 ):ρ:=h
def ai5.GI(h:ρ:=by
 simp only at k0 k1 k2 k3 k4 k5 k6 hk h9 mJ;subst hk;have qZ:eF=[]:=by
  simp[Pl.fj] at fF
  exact fF.1.2
 subst qZ;have⟨q1,q2,q3,q4⟩:b<w.1.size+1/\b<w.1.size+1+1/\b<w.1.size+1+1+1/\b<w.1.size+1+1+1+1:=oM;replace IH:=zH IH;have HE:=zH h;have F0:=zH (Fe.new (w:=w) (fA mf mc ms 0 0) (uC ⟨lf,lc,lr,ls⟩ u) (tE ⟨3,[],nm,⟨fk,fa,fb,fn⟩⟩ an cn) nN nN);go_enter func49,ntmps49;go_wp2_with fail;refine(IH.o _ F0.o.bl).mono ?_;rintro e w1 ⟨hb1,gJ,u0,u1,rfl,ro⟩;obtain⟨f',c',s'⟩:=m';obtain⟨⟨x0,y0,rfl⟩,x1,y1,rfl⟩:=ro.1.eS;simp only at gJ;have F1:=zH (F0.o.call hb1);have zB:=F0.o.b6.lt;have Ma:RO K (λb=>P b\/w.1.size+7<=b) w1 (sX x0 a.1.length y0) (sX x1 a.2.length y1) a:=ro.mono λb h _=>h.imp id λh=>oM;have nP:∀b,w.1.size<=b->b<w.1.size+7->¬(P b\/w.1.size+7<=b):=λb h1 h2 h=>by
  exact Κ
 have oY:Hid (RO K (λb=>P b\/w.1.size+7<=b) (((((((w1.setCell (Y (w.1.size+1+1+1+1+1) 0) (sX x0 a.1.length y0)).setCell (Y (w.1.size+1+1+1+1+1) 1) (sX x1 a.2.length y1)).setCell (Y w.1.size 0) (I f')).setCell (Y w.1.size 1) (I c')).setCell (Y w.1.size 2) (I s')).setCell (Y w.1.size 3) (I 0)).setCell (Y w.1.size 4) (I 0)) (sX x0 a.1.length y0) (sX x1 a.2.length y1) a):=Ma.kp (by
  repeat' (first | with_reducible exact Kp.refl _ _ | with_reducible refine Kp.set ?_ ?_ _ | exact nP _ J6 J6))
 obtain⟨⟨d0,f0,z0⟩,⟨d1,f1,z1⟩,⟨d2,f2,z2⟩,⟨d3,f3,z3⟩,⟨d4,f4,z4⟩,⟨d5,f5,z5⟩,⟨d6,f6,z6⟩⟩:=F1.o.all;have HN:=zH nP;go_wp2_with fail;have F2:=zH ((F1.o.pw (sX x0 a.1.length y0) (sX x1 a.2.length y1)).st f' c' s' 0 0);generalize ez (ez (ez (ez (ez (ez (ez w1 _ _) _ _) _ _) _ _) _ _) _ _) _ _=W2 at *;have fY:=gJ;obtain⟨g0,g1,g2,g3,g4,g5⟩:=gJ;simp only at g0 g1 g2 g3 g4 g5;refine(Ay f' c' s' 0 0 ⟨lf,lc,lr,ls⟩ W2 g0 g1).k λw3 hb=>?_;replace oY:=zH (oY.o.kp (.of hb));have F3:=zH (F2.o.call hb);have uW:¬lf<=f':=oM;rw[eB uW];replace HR:Hid (r=fin ⟨lf,lc,lr,ls⟩ (K.k1 ⟨fk,fa,fb,fn⟩ a) ⟨f'+1,c',s'⟩):=by
  refine(HR.o.trans (eB uW)).trans ?_;unfold qG;rw[eB mJ,eB h9]
 open akd in exact Pm
 ):ρ:=h
def abr{K:Ks}{P:nK}{w:Wd}{u:UV}{G:Gb}{own:List Ar}{eO:Option Pl.Tv}{d:Nat}(H:KS K)(O:KO K)(L:Lm)(hL:kJ L)(m:Ms)(h:Eu K P w u G own eO d)(hP:∀b,P b->b<w.1.size)(c:List Sv)(b o cp i:Nat)(s:Sv)(hs:c[i]? = a_ s)(pN:c.length<=1048576)(hk:s.k=3)(hb:b<w.1.size)(an:oA)(cn:Nat)(sp:jE w.1.size w b (o+i * 7) s an cn)
  (fF:Pl.fj s=b_) (a:Ar) (m':Ms) (call:lJ->List Ar->Ms->Pl.Rs) (IH:∀W,Bl w W->Cp 49 #[eW m.f m.c m.s 0 0,uV L u,sX (sY b o) c.length cp,I ((i:Int)-1)] W (EPost K P W (.ok a,m'))) (mJ:¬s.fn.k=10) (h9:¬s.fn.k=9) (hf:¬L.f<=m'.f) :
  Cp 49 #[eW m.f m.c m.s 0 0,uV L u,sX (sY b o) c.length cp,I (i:Int)] w (EPost K P w (iQ L m' (qG K.k1 L call s a))):=by
 have⟨r,HR⟩:∃r,Hid (r=iQ L m' (qG K.k1 L call s a)):=⟨_,rfl⟩;rw[<- HR.o];open ai5 in exact Hb
end Go.Proofs.YtiagfejlmafliaaGreatDoor
